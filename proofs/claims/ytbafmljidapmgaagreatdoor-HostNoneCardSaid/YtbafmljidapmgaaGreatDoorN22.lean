/- Part 22 of the proof that the card of HostNone holds. -/
import Derived.Test.YtbafmljidapmgaaGreatDoorN21
set_option maxHeartbeats 16000000
set_option maxRecDepth 100000
namespace Go.Proofs.YtbafmljidapmgaaGreatDoor.Hos
open Go RowKit Com Emu
structure Oh where
 kd:Int
 b:List Int
 rows:Int
 cols:Int
 k:Kys.Ky
 text:List Int
 ba:Option Addr
 bc:Nat
 ta:Option Addr
 tc:Nat
def ohV (o:Oh):List Value:=[.int .i64 o.kd,.slice o.ba o.b.length o.bc,.int .i64 o.rows,.int .i64 o.cols,.int .u8 o.k.kd,.int .i32 o.k.r,.int .i64 o.k.n,.int .u8 o.k.md,.slice o.ta o.text.length o.tc]
def Am5 (n:Int):Bool:=decide (24<n/\n<=512)
def bigO (o:Oh):Bool:=Am5 o.rows || Am5 o.cols || decide (600<o.b.length) || decide (200<o.text.length)
def Ao8 (r c b:Int) (l:List Oh):Bool:=Am5 r || Am5 c || decide (200<b/\b<=10000) || decide (60<l.length) || l.any bigO
def Cq1 (w:World) (ao:Option Addr) (l:List Oh):Prop:=∀ k (hk:k<l.length),∃ ad,ao=some ad/\∀ j v,(ohV l[k])[j]?=some v->w.cell? ((ad.add (k*9)).add j)=some v
section
variable {w w':World} {ao:Option Addr} {n cp:Nat} {l:List Oh}
theorem Ax7 (n:Int) (w:World):Calls Tryz.prog 35 #[.int .i64 n] w fun e w'=>e=.returned (.bool (Am5 n))/\w=w':=by
 by_cases h1:24<n
 ·by_cases h2:n<=512
  ·have hE:Hid (Am5 n=true):=J0 (decide_eq_true ⟨h1,h2⟩)
   go_enter Tryz.func35,Tryz.ntmps35
   go_wp2
   go_ret
   rw [hE.out]
   exact ⟨rfl,rfl⟩
  ·have hE:Hid (Am5 n=false):=J0 (decide_eq_false fun h=>h2 h.2)
   go_enter Tryz.func35,Tryz.ntmps35
   go_wp2
   go_ret
   rw [hE.out]
   exact ⟨rfl,rfl⟩
 ·have hE:Hid (Am5 n=false):=J0 (decide_eq_false fun h=>h1 h.1)
  go_enter Tryz.func35,Tryz.ntmps35
  go_wp2
  go_ret
  rw [hE.out]
  exact ⟨rfl,rfl⟩
theorem Bn3 {n:Int} {b:Bool} (h:Am5 n=b) (w:World):Calls Tryz.prog 35 #[.int .i64 n] w fun e w'=>e=.returned (.bool b)/\w=w':=h▸Ax7 n w
theorem great_any (r c b:Int) (hl:Cq1 w ao l) (hn:l.length=n):Calls Tryz.prog 7 #[.int .i64 r,.int .i64 c,.int .i64 b,.slice ao n cp] w fun e w'=>e=.returned (.bool (Ao8 r c b l))/\w=w':=by
 by_cases h1:Am5 r=true
 ·have hE:Hid (Ao8 r c b l=true):=J0 (by unfold Ao8;simp [h1])
  have q1:=J0 (fun w=>Bn3 h1 w)
  clear h1 hl hn
  go_enter Tryz.func7,Tryz.ntmps7
  go_wp2_with ((go_at_call 35;(with_reducible refine (q1.out _).mono ?_);rintro e w1 ⟨rfl,rfl⟩))
  go_ret
  rw [hE.out]
  exact ⟨rfl,rfl⟩
 have h1':Am5 r=false:=by simpa using h1
 have q1:=J0 (fun w=>Bn3 h1' w)
 by_cases h2:Am5 c=true
 ·have hE:Hid (Ao8 r c b l=true):=J0 (by unfold Ao8;simp [h2])
  have q2:=J0 (fun w=>Bn3 h2 w)
  clear h1 h1' h2 hl hn
  go_enter Tryz.func7,Tryz.ntmps7
  go_wp2_with (first|(go_at_call 35;(with_reducible refine (q1.out _).mono ?_);rintro e w1 ⟨rfl,rfl⟩)|(go_at_call 35;(with_reducible refine (q2.out _).mono ?_);rintro e w1 ⟨rfl,rfl⟩))
  go_ret
  rw [hE.out]
  exact ⟨rfl,rfl⟩
 have h2':Am5 c=false:=by simpa using h2
 have q2:=J0 (fun w=>Bn3 h2' w)
 by_cases h3:200<b/\b<=10000
 ·have hE:Hid (Ao8 r c b l=true):=J0 (by unfold Ao8;simp [h3])
  obtain ⟨h3,h3b⟩:=h3
  clear h1 h1' h2 h2' hl hn
  go_enter Tryz.func7,Tryz.ntmps7
  go_wp2_with (first|(go_at_call 35;(with_reducible refine (q1.out _).mono ?_);rintro e w1 ⟨rfl,rfl⟩)|(go_at_call 35;(with_reducible refine (q2.out _).mono ?_);rintro e w1 ⟨rfl,rfl⟩))
  go_ret
  rw [hE.out]
  exact ⟨rfl,rfl⟩
 by_cases h4:60<n
 ·have hE:Hid (Ao8 r c b l=true):=J0 (by unfold Ao8;simp [hn,h4])
  have h4I:(60:Int)<(n:Int):=by omega
  clear h1 h1' h2 h2' hl hn
  by_cases h5:200<b
  ·have h6:¬ b<=10000:=fun h=>h3 ⟨h5,h⟩
   clear h3
   go_enter Tryz.func7,Tryz.ntmps7
   go_wp2_with (first|(go_at_call 35;(with_reducible refine (q1.out _).mono ?_);rintro e w1 ⟨rfl,rfl⟩)|(go_at_call 35;(with_reducible refine (q2.out _).mono ?_);rintro e w1 ⟨rfl,rfl⟩))
   go_ret
   rw [hE.out]
   exact ⟨rfl,rfl⟩
  ·clear h3
   go_enter Tryz.func7,Tryz.ntmps7
   go_wp2_with (first|(go_at_call 35;(with_reducible refine (q1.out _).mono ?_);rintro e w1 ⟨rfl,rfl⟩)|(go_at_call 35;(with_reducible refine (q2.out _).mono ?_);rintro e w1 ⟨rfl,rfl⟩))
   go_ret
   rw [hE.out]
   exact ⟨rfl,rfl⟩
 have h4I:¬ (60:Int)<(n:Int):=by omega
 have hE:Hid (Ao8 r c b l=l.any bigO):=J0 (by unfold Ao8;simp [h1',h2',h3,hn,h4])
 rw [hE.out]
 clear h1 h1' h2 h2' hE
 replace hl:=J0 hl
 replace hn:=J0 hn
 have hw3:Hid (200<b->¬ b<=10000):=J0 fun h5 h=>h3 ⟨h5,h⟩
 clear h3
 by_cases h5:200<b
 ·have h6:=hw3.out h5
  clear hw3
  go_enter Tryz.func7,Tryz.ntmps7
  go_wp2_with (first|(go_at_call 35;(with_reducible refine (q1.out _).mono ?_);rintro e w1 ⟨rfl,rfl⟩)|(go_at_call 35;(with_reducible refine (q2.out _).mono ?_);rintro e w1 ⟨rfl,rfl⟩))
  clear q1 q2
  go_loopw [34] (fun i wr=>∃ k:Nat,k<=n/\i=.int .i64 k/\w=wr/\Hid ((l.take k).any bigO=false)) (fun i _=>n - (intOf i).toNat)
  case atStart=>exact ⟨0,Nat.zero_le _,rfl,rfl,J0 rfl⟩
  case round =>
   obtain ⟨k,hk,rfl,rfl,hQ⟩:=hrel
   by_cases hlt:k<n
   ·have hkI:(k:Int)<(n:Int):=by omega
    have hkl:k<l.length:=by rw [hn.out];exact hlt
    obtain ⟨ad,rfl,hcl⟩:=hl.out k hkl
    have hyes:Hid (bigO l[k]=true->l.any bigO=true):=J0 fun h=>List.any_eq_true.2 ⟨_,List.getElem_mem hkl,h⟩
    have hno:Hid (bigO l[k]=false->(l.take (k+1)).any bigO=false):=J0 fun h=>by
     rw [List.take_succ_eq_append_getElem hkl,List.any_append,hQ.out]
     simp [h]
    have x1:w.cell? ⟨(ad.add (k*9)).block,(ad.add (k*9)).off+1,none⟩=some (.slice l[k].ba l[k].b.length l[k].bc):=hcl 1 _ rfl
    have x2:w.cell? ⟨(ad.add (k*9)).block,(ad.add (k*9)).off+2,none⟩=some (.int .i64 l[k].rows):=hcl 2 _ rfl
    have x3:w.cell? ⟨(ad.add (k*9)).block,(ad.add (k*9)).off+3,none⟩=some (.int .i64 l[k].cols):=hcl 3 _ rfl
    have x8:w.cell? ⟨(ad.add (k*9)).block,(ad.add (k*9)).off+8,none⟩=some (.slice l[k].ta l[k].text.length l[k].tc):=hcl 8 _ rfl
    clear hcl hQ
    generalize l[k]=o at hyes hno x1 x2 x3 x8
    have p1:=fun w=>Ax7 o.rows w
    have p2:=fun w=>Ax7 o.cols w
    have hbig:Hid (bigO o=(Am5 o.rows || Am5 o.cols || decide (600<o.b.length) || decide (200<o.text.length))):=J0 rfl
    generalize Am5 o.rows=s1 at p1 hbig
    generalize Am5 o.cols=s2 at p2 hbig
    generalize o.b.length=bl at x1 hbig
    generalize o.text.length=tl at x8 hbig
    generalize o.rows=orw at x2 p1
    generalize o.cols=ocl at x3 p2
    replace p1:=J0 p1
    replace p2:=J0 p2
    cases s1 with
    |true =>
     have hy:=J0 (hyes.out (by rw [hbig.out];rfl))
     clear hyes hno hbig
     go_wp2_with ((go_at_call 35;(with_reducible refine (p1.out _).mono ?_);rintro e w1 ⟨rfl,rfl⟩))
     go_ret
     rw [hy.out]
     exact ⟨rfl,rfl⟩
    |false =>
    cases s2 with
    |true =>
     have hy:=J0 (hyes.out (by rw [hbig.out];rfl))
     clear hyes hno hbig
     go_wp2_with (first|(go_at_call 35;(with_reducible refine (p1.out _).mono ?_);rintro e w1 ⟨rfl,rfl⟩)|(go_at_call 35;(with_reducible refine (p2.out _).mono ?_);rintro e w1 ⟨rfl,rfl⟩))
     go_ret
     rw [hy.out]
     exact ⟨rfl,rfl⟩
    |false =>
    by_cases hb6:600<bl
    ·have hy:=J0 (hyes.out (by rw [hbig.out];simp [hb6]))
     have hb6I:(600:Int)<(bl:Int):=by omega
     clear hyes hno hbig
     go_wp2_with (first|(go_at_call 35;(with_reducible refine (p1.out _).mono ?_);rintro e w1 ⟨rfl,rfl⟩)|(go_at_call 35;(with_reducible refine (p2.out _).mono ?_);rintro e w1 ⟨rfl,rfl⟩))
     go_ret
     rw [hy.out]
     exact ⟨rfl,rfl⟩
    have hb6I:¬ (600:Int)<(bl:Int):=by omega
    by_cases ht2:200<tl
    ·have hy:=J0 (hyes.out (by rw [hbig.out];simp [ht2]))
     have ht2I:(200:Int)<(tl:Int):=by omega
     clear hyes hno hbig
     go_wp2_with (first|(go_at_call 35;(with_reducible refine (p1.out _).mono ?_);rintro e w1 ⟨rfl,rfl⟩)|(go_at_call 35;(with_reducible refine (p2.out _).mono ?_);rintro e w1 ⟨rfl,rfl⟩))
     go_ret
     rw [hy.out]
     exact ⟨rfl,rfl⟩
    have ht2I:¬ (200:Int)<(tl:Int):=by omega
    have hno2:=J0 (hno.out (by rw [hbig.out];simp [hb6,ht2]))
    clear hyes hno hbig
    go_wp2_with (first|(go_at_call 35;(with_reducible refine (p1.out _).mono ?_);rintro e w1 ⟨rfl,rfl⟩)|(go_at_call 35;(with_reducible refine (p2.out _).mono ?_);rintro e w1 ⟨rfl,rfl⟩))
    go_roundw
    case rel=>exact ⟨k+1,by omega,by go_num,trivial,hno2⟩
    case measure=>simp [intOf];omega
   ·obtain rfl:k=n:=by omega
    have hE:=hQ.out
    rw [List.take_of_length_le (by rw [hn.out];exact J5 _)] at hE
    replace hE:=J0 hE
    clear hQ hl hn
    go_wp2
    go_ret
    rw [hE.out]
    exact ⟨rfl,rfl⟩
 ·clear hw3
  go_enter Tryz.func7,Tryz.ntmps7
  go_wp2_with (first|(go_at_call 35;(with_reducible refine (q1.out _).mono ?_);rintro e w1 ⟨rfl,rfl⟩)|(go_at_call 35;(with_reducible refine (q2.out _).mono ?_);rintro e w1 ⟨rfl,rfl⟩))
  clear q1 q2
  go_loopw [34] (fun i wr=>∃ k:Nat,k<=n/\i=.int .i64 k/\w=wr/\Hid ((l.take k).any bigO=false)) (fun i _=>n - (intOf i).toNat)
  case atStart=>exact ⟨0,Nat.zero_le _,rfl,rfl,J0 rfl⟩
  case round =>
   obtain ⟨k,hk,rfl,rfl,hQ⟩:=hrel
   by_cases hlt:k<n
   ·have hkI:(k:Int)<(n:Int):=by omega
    have hkl:k<l.length:=by rw [hn.out];exact hlt
    obtain ⟨ad,rfl,hcl⟩:=hl.out k hkl
    have hyes:Hid (bigO l[k]=true->l.any bigO=true):=J0 fun h=>List.any_eq_true.2 ⟨_,List.getElem_mem hkl,h⟩
    have hno:Hid (bigO l[k]=false->(l.take (k+1)).any bigO=false):=J0 fun h=>by
     rw [List.take_succ_eq_append_getElem hkl,List.any_append,hQ.out]
     simp [h]
    have x1:w.cell? ⟨(ad.add (k*9)).block,(ad.add (k*9)).off+1,none⟩=some (.slice l[k].ba l[k].b.length l[k].bc):=hcl 1 _ rfl
    have x2:w.cell? ⟨(ad.add (k*9)).block,(ad.add (k*9)).off+2,none⟩=some (.int .i64 l[k].rows):=hcl 2 _ rfl
    have x3:w.cell? ⟨(ad.add (k*9)).block,(ad.add (k*9)).off+3,none⟩=some (.int .i64 l[k].cols):=hcl 3 _ rfl
    have x8:w.cell? ⟨(ad.add (k*9)).block,(ad.add (k*9)).off+8,none⟩=some (.slice l[k].ta l[k].text.length l[k].tc):=hcl 8 _ rfl
    clear hcl hQ
    generalize l[k]=o at hyes hno x1 x2 x3 x8
    have p1:=fun w=>Ax7 o.rows w
    have p2:=fun w=>Ax7 o.cols w
    have hbig:Hid (bigO o=(Am5 o.rows || Am5 o.cols || decide (600<o.b.length) || decide (200<o.text.length))):=J0 rfl
    generalize Am5 o.rows=s1 at p1 hbig
    generalize Am5 o.cols=s2 at p2 hbig
    generalize o.b.length=bl at x1 hbig
    generalize o.text.length=tl at x8 hbig
    generalize o.rows=orw at x2 p1
    generalize o.cols=ocl at x3 p2
    replace p1:=J0 p1
    replace p2:=J0 p2
    cases s1 with
    |true =>
     have hy:=J0 (hyes.out (by rw [hbig.out];rfl))
     clear hyes hno hbig
     go_wp2_with ((go_at_call 35;(with_reducible refine (p1.out _).mono ?_);rintro e w1 ⟨rfl,rfl⟩))
     go_ret
     rw [hy.out]
     exact ⟨rfl,rfl⟩
    |false =>
    cases s2 with
    |true =>
     have hy:=J0 (hyes.out (by rw [hbig.out];rfl))
     clear hyes hno hbig
     go_wp2_with (first|(go_at_call 35;(with_reducible refine (p1.out _).mono ?_);rintro e w1 ⟨rfl,rfl⟩)|(go_at_call 35;(with_reducible refine (p2.out _).mono ?_);rintro e w1 ⟨rfl,rfl⟩))
     go_ret
     rw [hy.out]
     exact ⟨rfl,rfl⟩
    |false =>
    by_cases hb6:600<bl
    ·have hy:=J0 (hyes.out (by rw [hbig.out];simp [hb6]))
     have hb6I:(600:Int)<(bl:Int):=by omega
     clear hyes hno hbig
     go_wp2_with (first|(go_at_call 35;(with_reducible refine (p1.out _).mono ?_);rintro e w1 ⟨rfl,rfl⟩)|(go_at_call 35;(with_reducible refine (p2.out _).mono ?_);rintro e w1 ⟨rfl,rfl⟩))
     go_ret
     rw [hy.out]
     exact ⟨rfl,rfl⟩
    have hb6I:¬ (600:Int)<(bl:Int):=by omega
    by_cases ht2:200<tl
    ·have hy:=J0 (hyes.out (by rw [hbig.out];simp [ht2]))
     have ht2I:(200:Int)<(tl:Int):=by omega
     clear hyes hno hbig
     go_wp2_with (first|(go_at_call 35;(with_reducible refine (p1.out _).mono ?_);rintro e w1 ⟨rfl,rfl⟩)|(go_at_call 35;(with_reducible refine (p2.out _).mono ?_);rintro e w1 ⟨rfl,rfl⟩))
     go_ret
     rw [hy.out]
     exact ⟨rfl,rfl⟩
    have ht2I:¬ (200:Int)<(tl:Int):=by omega
    have hno2:=J0 (hno.out (by rw [hbig.out];simp [hb6,ht2]))
    clear hyes hno hbig
    go_wp2_with (first|(go_at_call 35;(with_reducible refine (p1.out _).mono ?_);rintro e w1 ⟨rfl,rfl⟩)|(go_at_call 35;(with_reducible refine (p2.out _).mono ?_);rintro e w1 ⟨rfl,rfl⟩))
    go_roundw
    case rel=>exact ⟨k+1,by omega,by go_num,trivial,hno2⟩
    case measure=>simp [intOf];omega
   ·obtain rfl:k=n:=by omega
    have hE:=hQ.out
    rw [List.take_of_length_le (by rw [hn.out];exact J5 _)] at hE
    replace hE:=J0 hE
    clear hQ hl hn
    go_wp2
    go_ret
    rw [hE.out]
    exact ⟨rfl,rfl⟩
end
end Go.Proofs.YtbafmljidapmgaaGreatDoor.Hos
namespace Go.Proofs.YtbafmljidapmgaaGreatDoor.Hos
open Go Go.ChangeShapes Go.WideShapes Go.ChangeAt RowKit Go.Deep Com Emu
theorem cSB:Tryz.prog.cellsOf 32=1:=by kernel_rfl
theorem cKy:Tryz.prog.cellsOf 34=4:=by kernel_rfl
theorem cOp:Tryz.prog.cellsOf 37=9:=by kernel_rfl
theorem Cq8 {n:Int} (h:(Lit.int .u8 n).wf=true):0<=n/\n<=255:=by
 simp [Lit.wf,IntKind.min,IntKind.max,IntKind.signed,IntKind.bits] at h
 omega
theorem in_i32 {n:Int} (h:(Lit.int .i32 n).wf=true):-2147483648<=n/\n<=2147483647:=by
 simp [Lit.wf,IntKind.min,IntKind.max,IntKind.signed,IntKind.bits] at h
 omega
theorem in_i64 {n:Int} (h:(Lit.int .i64 n).wf=true):-9223372036854775808<=n/\n<=9223372036854775807:=by
 simp [Lit.wf,IntKind.min,IntKind.max,IntKind.signed,IntKind.bits] at h
 omega
structure OhIn (W:World) (o:Oh):Prop where
 b:o.b.length<=o.bc/\o.bc<=maxLen/\Fits .u8 o.b/\Nums W W.heap.size .u8 o.ba o.b
 text:o.text.length<=o.tc/\o.tc<=maxLen/\Fits .i32 o.text/\Nums W W.heap.size .i32 o.ta o.text
 key:o.k.Ok
 rows:(Lit.int .i64 o.rows).wf=true
 cols:(Lit.int .i64 o.cols).wf=true
section
variable {H:Type} {enc:TypeId×Value->H} {W:World}
theorem trod_key {fuel:Nat} {cs:List Value} {x:DataW H×List MemPlace} (h:DataW.trod enc Tryz.prog W 0 (fun _=>true) true fuel 34 cs=some x):∃ k:Kys.Ky,cs=(Kys.kA k).toList/\k.Ok:=by
 obtain ⟨xs,n,_,hx,hl,hlen,hf⟩:=DataW.trod_struct Tryz.underlying34 h
 rw [cKy] at hl
 have f0:DataW.trod enc Tryz.prog W 0 (fun _=>true) true n 5 ((cs.drop 0).take (Tryz.prog.cellsOf 5))=xs[0]?:=hf 0 _ rfl
 have f1:DataW.trod enc Tryz.prog W 0 (fun _=>true) true n 21 ((cs.drop 1).take (Tryz.prog.cellsOf 21))=xs[1]?:=hf 1 _ rfl
 have f2:DataW.trod enc Tryz.prog W 0 (fun _=>true) true n 3 ((cs.drop 2).take (Tryz.prog.cellsOf 3))=xs[2]?:=hf 2 _ rfl
 have f3:DataW.trod enc Tryz.prog W 0 (fun _=>true) true n 5 ((cs.drop 3).take (Tryz.prog.cellsOf 5))=xs[3]?:=hf 3 _ rfl
 rw [cU8] at f0 f3
 rw [cI32] at f1
 rw [cInt] at f2
 match xs,hlen with
 |[y0,y1,y2,y3],_ =>
  match cs,hl with
  |[c0,c1,c2,c3],_ =>
   obtain ⟨z0,rfl,w0⟩:=Bf6 Tryz.underlying5 f0
   obtain ⟨z1,rfl,w1⟩:=Bf6 Tryz.underlying21 f1
   obtain ⟨z2,rfl,w2⟩:=Bf6 Tryz.underlying3 f2
   obtain ⟨z3,rfl,w3⟩:=Bf6 Tryz.underlying5 f3
   exact ⟨⟨z0,z1,z2,z3⟩,rfl,⟨Cq8 w0,in_i32 w1,in_i64 w2,Cq8 w3⟩⟩
theorem trod_oh {fuel:Nat} {cs:List Value} {x:DataW H×List MemPlace} (h:DataW.trod enc Tryz.prog W 0 (fun _=>true) true fuel 37 cs=some x):∃ o:Oh,cs=ohV o/\OhIn W o:=by
 obtain ⟨xs,n,_,hx,hl,hlen,hf⟩:=DataW.trod_struct Tryz.underlying37 h
 rw [cOp] at hl
 have f0:DataW.trod enc Tryz.prog W 0 (fun _=>true) true n 3 ((cs.drop 0).take (Tryz.prog.cellsOf 3))=xs[0]?:=hf 0 _ rfl
 have f1:DataW.trod enc Tryz.prog W 0 (fun _=>true) true n 32 ((cs.drop 1).take (Tryz.prog.cellsOf 32))=xs[1]?:=hf 1 _ rfl
 have f2:DataW.trod enc Tryz.prog W 0 (fun _=>true) true n 3 ((cs.drop 2).take (Tryz.prog.cellsOf 3))=xs[2]?:=hf 2 _ rfl
 have f3:DataW.trod enc Tryz.prog W 0 (fun _=>true) true n 3 ((cs.drop 3).take (Tryz.prog.cellsOf 3))=xs[3]?:=hf 3 _ rfl
 have f4:DataW.trod enc Tryz.prog W 0 (fun _=>true) true n 34 ((cs.drop 4).take (Tryz.prog.cellsOf 34))=xs[4]?:=hf 4 _ rfl
 have f5:DataW.trod enc Tryz.prog W 0 (fun _=>true) true n 35 ((cs.drop 8).take (Tryz.prog.cellsOf 35))=xs[5]?:=hf 5 _ rfl
 rw [cInt] at f0 f2 f3
 rw [cSB] at f1
 rw [cKy] at f4
 rw [cSR] at f5
 match xs,hlen with
 |[y0,y1,y2,y3,y4,y5],_ =>
  match cs,hl with
  |[c0,c1,c2,c3,c4,c5,c6,c7,c8],_ =>
   obtain ⟨z0,rfl,w0⟩:=Bf6 Tryz.underlying3 f0
   obtain ⟨a1,k1,l1,rfl,p1⟩:=Ci0 Tryz.underlying32 Tryz.underlying5 cU8 f1
   obtain ⟨z2,rfl,w2⟩:=Bf6 Tryz.underlying3 f2
   obtain ⟨z3,rfl,w3⟩:=Bf6 Tryz.underlying3 f3
   obtain ⟨k,hk,ok⟩:=trod_key f4
   obtain ⟨a5,k5,l5,rfl,p5⟩:=Ci0 Tryz.underlying35 Tryz.underlying21 cI32 f5
   have hk':[c4,c5,c6,c7]=[.int .u8 k.kd,.int .i32 k.r,.int .i64 k.n,.int .u8 k.md]:=hk
   simp only [List.cons.injEq,and_true] at hk'
   obtain ⟨rfl,rfl,rfl,rfl⟩:=hk'
   exact ⟨⟨z0,l1,z2,z3,k,l5,a1,k1,a5,k5⟩,rfl,⟨⟨p1.1,p1.2.1,p1.2.2.2,p1.2.2.1⟩,⟨p5.1,p5.2.1,p5.2.2.2,p5.2.2.1⟩,ok,w2,w3⟩⟩
theorem open_oh {r:Reach} {b0:Nat} {v:Value} {d:DataW H} {p:List MemPlace} (hv:Value.okWide Tryz.prog W r b0 37 v) (h:DataW.Trod enc Tryz.prog W 0 (fun _=>true) true 37 v d p):∃ o:Oh,v=.agg (ohV o).toArray/\OhIn W o:=by
 obtain ⟨cs,rfl,_⟩:=okWide_struct Tryz.underlying37 hv
 obtain ⟨fuel,hf⟩:=h
 obtain ⟨o,ho,hk⟩:=trod_oh hf
 refine ⟨o,?_,hk⟩
 have:cs.toList=ohV o:=ho
 rw [<- this]
end
end Go.Proofs.YtbafmljidapmgaaGreatDoor.Hos
namespace Go.Proofs.YtbafmljidapmgaaGreatDoor.Hos
open Go RowKit Com Emu
def NoH (w:World) (v:Value):Prop:=v=.pointer none\/∃ d,v=.pointer (some ⟨d,0,none⟩)/\Block w d 88 #[.pointer none]
section
variable {w w':World} {v:Value} {pa:Option Addr} {pn pc:Nat} {k:Kys.Ky}
theorem NoH.below (h:NoH w v) (hb:Below w.heap.size w w'):NoH w' v:=h.imp id fun ⟨d,e,hB⟩=>⟨d,e,Block.only hB (Only.of_below hb []) (by simp)⟩
theorem Af6 (h:NoH w v):Calls Tryz.prog 43 #[v] w fun e w'=>e=.returned (.bool false)/\w=w':=by
 rcases h with rfl|⟨d,rfl,hB⟩
 ·go_enter Tryz.func43,Tryz.ntmps43
  go_wp2
  go_ret
  exact ⟨rfl,rfl⟩
 ·have c0:=hB.cell 0 (v:=.pointer none) rfl
  clear hB
  go_enter Tryz.func43,Tryz.ntmps43
  go_wp2
  go_ret
  exact ⟨rfl,rfl⟩
theorem Cf8 (h:NoH w v) (a b:Int):Calls Tryz.prog 14 #[v,.int .i64 a,.int .i64 b] w fun e w'=>e=.returned (.tuple #[.slice none 0 0,.int .i64 1])/\w=w':=by
 have hm:=J0 (Af6 h)
 clear h
 go_enter Tryz.func14,Tryz.ntmps14
 go_wp2_with ((go_at_call 43;(with_reducible refine (hm.out).mono ?_);rintro e w1 ⟨rfl,rfl⟩))
 go_ret2
 exact ⟨rfl,rfl⟩
theorem Cf6 (h:NoH w v):Calls Tryz.prog 16 #[v,.agg (Kys.kA k)] w fun e w'=>e=.returned (.int .i64 1)/\Below w.heap.size w w':=by
 have hbn:=Aa1 w (.cells (Kys.kA k) 34)
 have hm:=J0 (Af6 (h.below hbn))
 clear h
 go_enter Tryz.func16,Tryz.ntmps16
 go_wp2_with ((go_at_call 43;(with_reducible refine (hm.out).mono ?_);rintro e w1 ⟨rfl,rfl⟩))
 go_ret
 exact ⟨rfl,hbn⟩
theorem Cf7 (h:NoH w v):Calls Tryz.prog 18 #[v,.slice pa pn pc] w fun e w'=>e=.returned (.int .i64 1)/\w=w':=by
 have hm:=J0 (Af6 h)
 clear h
 go_enter Tryz.func18,Tryz.ntmps18
 go_wp2_with ((go_at_call 43;(with_reducible refine (hm.out).mono ?_);rintro e w1 ⟨rfl,rfl⟩))
 go_ret
 exact ⟨rfl,rfl⟩
theorem By3 (h:NoH w v):Calls Tryz.prog 20 #[v,.slice pa pn pc] w fun e w'=>e=.returned (.int .i64 1)/\w=w':=by
 have hm:=J0 (Af6 h)
 clear h
 go_enter Tryz.func20,Tryz.ntmps20
 go_wp2_with ((go_at_call 43;(with_reducible refine (hm.out).mono ?_);rintro e w1 ⟨rfl,rfl⟩))
 go_ret
 exact ⟨rfl,rfl⟩
theorem Bq0 (h:NoH w v):Calls Tryz.prog 12 #[v,.slice pa pn pc] w fun e w'=>e=.returned (.slice none 0 0)/\w=w':=by
 have hm:=J0 (Af6 h)
 clear h
 go_enter Tryz.func12,Tryz.ntmps12
 go_wp2_with ((go_at_call 43;(with_reducible refine (hm.out).mono ?_);rintro e w1 ⟨rfl,rfl⟩))
 go_ret
 exact ⟨rfl,rfl⟩
theorem By4 (h:NoH w v):Calls Tryz.prog 21 #[v] w fun e w'=>e=.returned (.slice none 0 0)/\w=w':=by
 have hm:=J0 (Af6 h)
 clear h
 go_enter Tryz.func21,Tryz.ntmps21
 go_wp2_with ((go_at_call 43;(with_reducible refine (hm.out).mono ?_);rintro e w1 ⟨rfl,rfl⟩))
 go_ret
 exact ⟨rfl,rfl⟩
theorem Bx9 (h:NoH w v):Calls Tryz.prog 30 #[v] w fun e w'=>e=.returned (.slice none 0 0)/\w=w':=by
 have hm:=J0 (Af6 h)
 clear h
 go_enter Tryz.func30,Tryz.ntmps30
 go_wp2_with ((go_at_call 43;(with_reducible refine (hm.out).mono ?_);rintro e w1 ⟨rfl,rfl⟩))
 go_ret
 exact ⟨rfl,rfl⟩
theorem By2 (h:NoH w v):Calls Tryz.prog 28 #[v] w fun e w'=>e=.returned (.int .u64 0)/\w=w':=by
 have hm:=J0 (Af6 h)
 clear h
 go_enter Tryz.func28,Tryz.ntmps28
 go_wp2_with ((go_at_call 43;(with_reducible refine (hm.out).mono ?_);rintro e w1 ⟨rfl,rfl⟩))
 go_ret
 exact ⟨rfl,rfl⟩
theorem By0 (h:NoH w v):Calls Tryz.prog 23 #[v] w fun e w'=>e=.returned (.agg #[.slice none 0 0,.slice none 0 0,.int .i64 0,.int .i64 0,.bool false,.bool false,.bool false,.int .i64 0,.int .i64 0,.int .u32 0,.int .u32 0,.int .u16 0])/\Below w.heap.size w w':=by
 have hbn:=Aa1 w (.cells #[.slice none 0 0,.slice none 0 0,.int .i64 0,.int .i64 0,.bool false,.bool false,.bool false,.int .i64 0,.int .i64 0,.int .u32 0,.int .u32 0,.int .u16 0] 58)
 have hbx:=Block.made w 58 #[.slice none 0 0,.slice none 0 0,.int .i64 0,.int .i64 0,.bool false,.bool false,.bool false,.int .i64 0,.int .i64 0,.int .u32 0,.int .u32 0,.int .u16 0]
 have hinf:(Tryz.prog.info? 58).map (·.size)=some (#[.slice none 0 0,.slice none 0 0,.int .i64 0,.int .i64 0,.bool false,.bool false,.bool false,.int .i64 0,.int .i64 0,.int .u32 0,.int .u32 0,.int .u16 0]:Array Value).size:=by kernel_rfl
 have hm:=J0 (Af6 (h.below hbn))
 clear h
 go_enter Tryz.func23,Tryz.ntmps23
 go_wp2_with ((go_at_call 43;(with_reducible refine (hm.out).mono ?_);rintro e w1 ⟨rfl,rfl⟩))
 exact bodyPost_ret (results_cell_row rfl _ _ _ _ _ _ _ rfl hbx Tryz.underlying58 rfl hinf) rfl ⟨rfl,hbn⟩
theorem By1 (h:NoH w v):Calls Tryz.prog 27 #[v] w fun e w'=>e=.returned (.agg #[.bool false,.bool false,.bool false,.bool false,.bool false,.bool false,.bool false,.bool false])/\Below w.heap.size w w':=by
 have hbn:=Aa1 w (.cells #[.bool false,.bool false,.bool false,.bool false,.bool false,.bool false,.bool false,.bool false] 63)
 have hbx:=Block.made w 63 #[.bool false,.bool false,.bool false,.bool false,.bool false,.bool false,.bool false,.bool false]
 have hinf:(Tryz.prog.info? 63).map (·.size)=some (#[.bool false,.bool false,.bool false,.bool false,.bool false,.bool false,.bool false,.bool false]:Array Value).size:=by kernel_rfl
 have hm:=J0 (Af6 (h.below hbn))
 clear h
 go_enter Tryz.func27,Tryz.ntmps27
 go_wp2_with ((go_at_call 43;(with_reducible refine (hm.out).mono ?_);rintro e w1 ⟨rfl,rfl⟩))
 exact bodyPost_ret (results_cell_row rfl _ _ _ _ _ _ _ rfl hbx Tryz.underlying63 rfl hinf) rfl ⟨rfl,hbn⟩
theorem By5 (h:NoH w v):Calls Tryz.prog 32 #[v] w fun e w'=>e=.returned (.agg #[.slice none 0 0,.int .i64 0,.int .i64 0,.int .i64 0])/\Below w.heap.size w w':=by
 have hbn:=Aa1 w (.cells #[.slice none 0 0,.int .i64 0,.int .i64 0,.int .i64 0] 81)
 have hbx:=Block.made w 81 #[.slice none 0 0,.int .i64 0,.int .i64 0,.int .i64 0]
 have hinf:(Tryz.prog.info? 81).map (·.size)=some (#[.slice none 0 0,.int .i64 0,.int .i64 0,.int .i64 0]:Array Value).size:=by kernel_rfl
 have hm:=J0 (Af6 (h.below hbn))
 clear h
 go_enter Tryz.func32,Tryz.ntmps32
 go_wp2_with ((go_at_call 43;(with_reducible refine (hm.out).mono ?_);rintro e w1 ⟨rfl,rfl⟩))
 exact bodyPost_ret (results_cell_row rfl _ _ _ _ _ _ _ rfl hbx Tryz.underlying81 rfl hinf) rfl ⟨rfl,hbn⟩
end
end Go.Proofs.YtbafmljidapmgaaGreatDoor.Hos
namespace Go.Proofs.YtbafmljidapmgaaGreatDoor.Par
structure Lst where
 n:List Int
 over:Bool
def empty:Lst:=⟨[],false⟩
def begF (n:List Int):List Int:=if n.length=0 then [0] else n
def Bm1 (n:List Int):Int:=n.getD (n.length - 1) 0
def capF (x:Int):Int:=if 65535<x then 65535 else x
def putF (n:List Int) (d:Int):List Int:=n.set (n.length - 1) (capF (Bm1 n*10+d))
def Az9 (L:Lst) (d:Int):Lst:=if d<0\/9<d\/L.over=true then L else ⟨putF (begF L.n) d,false⟩
def nextF (L:Lst):Lst:=if (begF L.n).length=32 then ⟨begF L.n,true⟩ else ⟨begF L.n++[0],L.over⟩
structure Lst.Ok (L:Lst):Prop where
 len:L.n.length<=32
 lo:∀ x∈L.n,0<=x
 hi:∀ x∈L.n,x<=65535
theorem empty_ok:empty.Ok:=⟨by simp [empty],by simp [empty],by simp [empty]⟩
theorem Ce1 (n:List Int):0<(begF n).length:=by
 unfold begF;split
 ·simp
 ·omega
theorem Cd9 {n:List Int} (h:n.length<=32):(begF n).length<=32:=by
 unfold begF;split
 ·simp
 ·exact h
theorem beg_of_pos {n:List Int} (h:0<n.length):begF n=n:=by unfold begF;rw [if_neg (by omega)]
theorem Cd8 {p:Int->Prop} {n:List Int} (h0:p 0) (h:∀ x∈n,p x):∀ x∈begF n,p x:=by
 unfold begF
 split
 ·intro x hx;simp at hx;subst hx;exact h0
 ·exact h
theorem Lst.Ok.beg {L:Lst} (h:L.Ok) (b:Bool):Lst.Ok ⟨begF L.n,b⟩:=⟨Cd9 h.len,Cd8 (by omega) h.lo,Cd8 (by omega) h.hi⟩
theorem put_len (n:List Int) (d:Int):(putF n d).length=n.length:=by simp [putF]
theorem Bm2 {n:List Int} (h:0<n.length):Bm1 n∈n:=by
 unfold Bm1
 rw [List.getD_eq_getElem?_getD,List.getElem?_eq_getElem (by omega)]
 exact List.getElem_mem _
theorem Cj0 {n:List Int} {d x:Int} (h:x∈putF n d):x∈n\/x=capF (Bm1 n*10+d):=List.mem_or_eq_of_mem_set h
theorem Bw2 {L:Lst} (h:L.Ok) (d:Int):(Az9 L d).Ok:=by
 unfold Az9
 split
 ·exact h
 ·rename_i hd
  have hb:=h.beg false
  have hp:=Ce1 L.n
  have h0:0<=Bm1 (begF L.n):=hb.lo _ (Bm2 hp)
  refine ⟨by rw [put_len];exact hb.len,fun x hx=>?_,fun x hx=>?_⟩
  ·rcases Cj0 hx with hx|rfl
   ·exact hb.lo x hx
   ·unfold capF;split<;>omega
  ·rcases Cj0 hx with hx|rfl
   ·exact hb.hi x hx
   ·unfold capF;split<;>omega
theorem Ch7 {L:Lst} (h:L.Ok):(nextF L).Ok:=by
 have hb:=h.beg L.over
 have h32:=hb.len
 unfold nextF
 split
 ·exact h.beg true
 ·refine ⟨by simp at h32 |-;omega,fun x hx=>?_,fun x hx=>?_⟩
  ·rcases List.mem_append.1 hx with hx|hx
   ·exact hb.lo x hx
   ·simp at hx;omega
  ·rcases List.mem_append.1 hx with hx|hx
   ·exact hb.hi x hx
   ·simp at hx;omega
theorem getD_at {l:List Int} {k:Nat} (h:k<l.length):l.getD k 0=l[k]:=by rw [List.getD_eq_getElem?_getD,List.getElem?_eq_getElem h];rfl
