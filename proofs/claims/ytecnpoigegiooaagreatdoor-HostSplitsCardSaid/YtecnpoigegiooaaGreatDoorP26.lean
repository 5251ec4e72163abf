/- Part 26 of HostSplits. -/
import Derived.Test.YtecnpoigegiooaaGreatDoorP25
import Derived.Laws.StructEq
import Derived.WalkArith
import Derived.StillTail
set_option maxHeartbeats 16000000
set_option maxRecDepth 100000
namespace Go.Proofs.YtecnpoigegiooaaGreatDoor.Hos
open Go RowKit Com Emu
structure Oh where
 kd:Int
 b:List Int
 rows:Int
 cols:Int
 k:Kys.Ky
 text:List Int
 ba:Option Addr
 bc:Nat
 ta:Option Addr
 tc:Nat
def ohV (o:Oh):List Value:=[.int .i64 o.kd,.slice o.ba o.b.length o.bc,.int .i64 o.rows,.int .i64 o.cols,.int .u8 o.k.kd,.int .i32 o.k.r,.int .i64 o.k.n,.int .u8 o.k.md,.slice o.ta o.text.length o.tc]
def Ai6 (n:Int):Bool:=decide (24<n/\n<=512)
def bigO (o:Oh):Bool:=Ai6 o.rows || Ai6 o.cols || decide (600<o.b.length) || decide (200<o.text.length)
def Aj7 (r c b:Int) (l:List Oh):Bool:=Ai6 r || Ai6 c || decide (200<b/\b<=10000) || decide (60<l.length) || l.any bigO
def OhsAt (w:World) (ao:Option Addr) (l:List Oh):Prop:=∀k (hk:k<l.length),∃ad,ao=some ad/\∀j v,(ohV l[k])[j]?=some v->w.cell? ((ad.add (k*9)).add j)=some v
section
variable {w w':World}{ao:Option Addr}{n cp:Nat}{l:List Oh}
theorem Ay4 (n:Int) (w:World):Calls Tryz.prog 15 #[.int .i64 n] w fun e w'=>e=.returned (.bool (Ai6 n))/\w=w':=by
 by_cases h1:24<n
 ·by_cases h2:n<=512
  ·have hE:Hid (Ai6 n=true):=J0 (decide_eq_true ⟨h1,h2⟩)
   go_enter Tryz.func15,Tryz.ntmps15
   go_wp2
   go_ret
   rw[hE.out]
   exact⟨rfl,rfl⟩
  ·have hE:Hid (Ai6 n=false):=J0 (decide_eq_false fun h=>h2 h.2)
   go_enter Tryz.func15,Tryz.ntmps15
   go_wp2
   go_ret
   rw[hE.out]
   exact⟨rfl,rfl⟩
 ·have hE:Hid (Ai6 n=false):=J0 (decide_eq_false fun h=>h1 h.1)
  go_enter Tryz.func15,Tryz.ntmps15
  go_wp2
  go_ret
  rw[hE.out]
  exact⟨rfl,rfl⟩
theorem Bq0 {n:Int} {b:Bool} (h:Ai6 n=b) (w:World):Calls Tryz.prog 15 #[.int .i64 n] w fun e w'=>e=.returned (.bool b)/\w=w':=h▸Ay4 n w
theorem great_any (r c b:Int) (hl:OhsAt w ao l) (hn:l.length=n):Calls Tryz.prog 5 #[.int .i64 r,.int .i64 c,.int .i64 b,.slice ao n cp] w fun e w'=>e=.returned (.bool (Aj7 r c b l))/\w=w':=by
 by_cases h1:Ai6 r=true
 ·have hE:Hid (Aj7 r c b l=true):=J0 (by unfold Aj7;simp[h1])
  have q1:=J0 (fun w=>Bq0 h1 w)
  clear h1 hl hn
  go_enter Tryz.func5,Tryz.ntmps5
  go_wp2_with ((go_at_call 15;(with_reducible refine(q1.out _).mono ?_);rintro e w1 ⟨rfl,rfl⟩))
  go_ret
  rw[hE.out]
  exact⟨rfl,rfl⟩
 have h1':Ai6 r=false:=by simpa using h1
 have q1:=J0 (fun w=>Bq0 h1' w)
 by_cases h2:Ai6 c=true
 ·have hE:Hid (Aj7 r c b l=true):=J0 (by unfold Aj7;simp[h2])
  have q2:=J0 (fun w=>Bq0 h2 w)
  clear h1 h1' h2 hl hn
  go_enter Tryz.func5,Tryz.ntmps5
  go_wp2_with (first|(go_at_call 15;(with_reducible refine(q1.out _).mono ?_);rintro e w1 ⟨rfl,rfl⟩)|(go_at_call 15;(with_reducible refine(q2.out _).mono ?_);rintro e w1 ⟨rfl,rfl⟩))
  go_ret
  rw[hE.out]
  exact⟨rfl,rfl⟩
 have h2':Ai6 c=false:=by simpa using h2
 have q2:=J0 (fun w=>Bq0 h2' w)
 by_cases h3:200<b/\b<=10000
 ·have hE:Hid (Aj7 r c b l=true):=J0 (by unfold Aj7;simp[h3])
  obtain⟨h3,h3b⟩:=h3
  clear h1 h1' h2 h2' hl hn
  go_enter Tryz.func5,Tryz.ntmps5
  go_wp2_with (first|(go_at_call 15;(with_reducible refine(q1.out _).mono ?_);rintro e w1 ⟨rfl,rfl⟩)|(go_at_call 15;(with_reducible refine(q2.out _).mono ?_);rintro e w1 ⟨rfl,rfl⟩))
  go_ret
  rw[hE.out]
  exact⟨rfl,rfl⟩
 by_cases h4:60<n
 ·have hE:Hid (Aj7 r c b l=true):=J0 (by unfold Aj7;simp[hn,h4])
  have h4I:(60:Int)<(n:Int):=by omega
  clear h1 h1' h2 h2' hl hn
  by_cases h5:200<b
  ·have h6:¬b<=10000:=fun h=>h3 ⟨h5,h⟩
   clear h3
   go_enter Tryz.func5,Tryz.ntmps5
   go_wp2_with (first|(go_at_call 15;(with_reducible refine(q1.out _).mono ?_);rintro e w1 ⟨rfl,rfl⟩)|(go_at_call 15;(with_reducible refine(q2.out _).mono ?_);rintro e w1 ⟨rfl,rfl⟩))
   go_ret
   rw[hE.out]
   exact⟨rfl,rfl⟩
  ·clear h3
   go_enter Tryz.func5,Tryz.ntmps5
   go_wp2_with (first|(go_at_call 15;(with_reducible refine(q1.out _).mono ?_);rintro e w1 ⟨rfl,rfl⟩)|(go_at_call 15;(with_reducible refine(q2.out _).mono ?_);rintro e w1 ⟨rfl,rfl⟩))
   go_ret
   rw[hE.out]
   exact⟨rfl,rfl⟩
 have h4I:¬(60:Int)<(n:Int):=by omega
 have hE:Hid (Aj7 r c b l=l.any bigO):=J0 (by unfold Aj7;simp[h1',h2',h3,hn,h4])
 rw[hE.out]
 clear h1 h1' h2 h2' hE
 replace hl:=J0 hl
 replace hn:=J0 hn
 have hw3:Hid (200<b->¬b<=10000):=J0 fun h5 h=>h3 ⟨h5,h⟩
 clear h3
 by_cases h5:200<b
 ·have h6:=hw3.out h5
  clear hw3
  go_enter Tryz.func5,Tryz.ntmps5
  go_wp2_with (first|(go_at_call 15;(with_reducible refine(q1.out _).mono ?_);rintro e w1 ⟨rfl,rfl⟩)|(go_at_call 15;(with_reducible refine(q2.out _).mono ?_);rintro e w1 ⟨rfl,rfl⟩))
  clear q1 q2
  go_loopw [34] (fun i wr=>∃k:Nat,k<=n/\i=.int .i64 k/\w=wr/\Hid ((l.take k).any bigO=false)) (fun i _=>n - (intOf i).toNat)
  case atStart=>exact⟨0,Nat.zero_le _,rfl,rfl,J0 rfl⟩
  case round =>
   obtain⟨k,hk,rfl,rfl,hQ⟩:=hrel
   by_cases hlt:k<n
   ·have hkI:(k:Int)<(n:Int):=by omega
    have hkl:k<l.length:=by rw[hn.out];exact hlt
    obtain⟨ad,rfl,hcl⟩:=hl.out k hkl
    have hyes:Hid (bigO l[k]=true->l.any bigO=true):=J0 fun h=>List.any_eq_true.2 ⟨_,List.getElem_mem hkl,h⟩
    have hno:Hid (bigO l[k]=false->(l.take (k+1)).any bigO=false):=J0 fun h=>by
     rw[List.take_succ_eq_append_getElem hkl,List.any_append,hQ.out]
     simp[h]
    have x1:w.cell? ⟨(ad.add (k*9)).block,(ad.add (k*9)).off+1,none⟩=some (.slice l[k].ba l[k].b.length l[k].bc):=hcl 1 _ rfl
    have x2:w.cell? ⟨(ad.add (k*9)).block,(ad.add (k*9)).off+2,none⟩=some (.int .i64 l[k].rows):=hcl 2 _ rfl
    have x3:w.cell? ⟨(ad.add (k*9)).block,(ad.add (k*9)).off+3,none⟩=some (.int .i64 l[k].cols):=hcl 3 _ rfl
    have x8:w.cell? ⟨(ad.add (k*9)).block,(ad.add (k*9)).off+8,none⟩=some (.slice l[k].ta l[k].text.length l[k].tc):=hcl 8 _ rfl
    clear hcl hQ
    generalize l[k]=o at hyes hno x1 x2 x3 x8
    have p1:=fun w=>Ay4 o.rows w
    have p2:=fun w=>Ay4 o.cols w
    have hbig:Hid (bigO o=(Ai6 o.rows || Ai6 o.cols || decide (600<o.b.length) || decide (200<o.text.length))):=J0 rfl
    generalize Ai6 o.rows=s1 at p1 hbig
    generalize Ai6 o.cols=s2 at p2 hbig
    generalize o.b.length=bl at x1 hbig
    generalize o.text.length=tl at x8 hbig
    generalize o.rows=orw at x2 p1
    generalize o.cols=ocl at x3 p2
    replace p1:=J0 p1
    replace p2:=J0 p2
    cases s1 with
    |true =>
     have hy:=J0 (hyes.out (by rw[hbig.out];rfl))
     clear hyes hno hbig
     go_wp2_with ((go_at_call 15;(with_reducible refine(p1.out _).mono ?_);rintro e w1 ⟨rfl,rfl⟩))
     go_ret
     rw[hy.out]
     exact⟨rfl,rfl⟩
    |false =>
    cases s2 with
    |true =>
     have hy:=J0 (hyes.out (by rw[hbig.out];rfl))
     clear hyes hno hbig
     go_wp2_with (first|(go_at_call 15;(with_reducible refine(p1.out _).mono ?_);rintro e w1 ⟨rfl,rfl⟩)|(go_at_call 15;(with_reducible refine(p2.out _).mono ?_);rintro e w1 ⟨rfl,rfl⟩))
     go_ret
     rw[hy.out]
     exact⟨rfl,rfl⟩
    |false =>
    by_cases hb6:600<bl
    ·have hy:=J0 (hyes.out (by rw[hbig.out];simp[hb6]))
     have hb6I:(600:Int)<(bl:Int):=by omega
     clear hyes hno hbig
     go_wp2_with (first|(go_at_call 15;(with_reducible refine(p1.out _).mono ?_);rintro e w1 ⟨rfl,rfl⟩)|(go_at_call 15;(with_reducible refine(p2.out _).mono ?_);rintro e w1 ⟨rfl,rfl⟩))
     go_ret
     rw[hy.out]
     exact⟨rfl,rfl⟩
    have hb6I:¬(600:Int)<(bl:Int):=by omega
    by_cases ht2:200<tl
    ·have hy:=J0 (hyes.out (by rw[hbig.out];simp[ht2]))
     have ht2I:(200:Int)<(tl:Int):=by omega
     clear hyes hno hbig
     go_wp2_with (first|(go_at_call 15;(with_reducible refine(p1.out _).mono ?_);rintro e w1 ⟨rfl,rfl⟩)|(go_at_call 15;(with_reducible refine(p2.out _).mono ?_);rintro e w1 ⟨rfl,rfl⟩))
     go_ret
     rw[hy.out]
     exact⟨rfl,rfl⟩
    have ht2I:¬(200:Int)<(tl:Int):=by omega
    have hno2:=J0 (hno.out (by rw[hbig.out];simp[hb6,ht2]))
    clear hyes hno hbig
    go_wp2_with (first|(go_at_call 15;(with_reducible refine(p1.out _).mono ?_);rintro e w1 ⟨rfl,rfl⟩)|(go_at_call 15;(with_reducible refine(p2.out _).mono ?_);rintro e w1 ⟨rfl,rfl⟩))
    go_roundw
    case rel=>exact⟨k+1,by omega,by go_num,trivial,hno2⟩
    case measure=>simp[intOf];omega
   ·obtain rfl:k=n:=by omega
    have hE:=hQ.out
    rw[List.take_of_length_le (by rw[hn.out];exact J5 _)] at hE
    replace hE:=J0 hE
    clear hQ hl hn
    go_wp2
    go_ret
    rw[hE.out]
    exact⟨rfl,rfl⟩
 ·clear hw3
  go_enter Tryz.func5,Tryz.ntmps5
  go_wp2_with (first|(go_at_call 15;(with_reducible refine(q1.out _).mono ?_);rintro e w1 ⟨rfl,rfl⟩)|(go_at_call 15;(with_reducible refine(q2.out _).mono ?_);rintro e w1 ⟨rfl,rfl⟩))
  clear q1 q2
  go_loopw [34] (fun i wr=>∃k:Nat,k<=n/\i=.int .i64 k/\w=wr/\Hid ((l.take k).any bigO=false)) (fun i _=>n - (intOf i).toNat)
  case atStart=>exact⟨0,Nat.zero_le _,rfl,rfl,J0 rfl⟩
  case round =>
   obtain⟨k,hk,rfl,rfl,hQ⟩:=hrel
   by_cases hlt:k<n
   ·have hkI:(k:Int)<(n:Int):=by omega
    have hkl:k<l.length:=by rw[hn.out];exact hlt
    obtain⟨ad,rfl,hcl⟩:=hl.out k hkl
    have hyes:Hid (bigO l[k]=true->l.any bigO=true):=J0 fun h=>List.any_eq_true.2 ⟨_,List.getElem_mem hkl,h⟩
    have hno:Hid (bigO l[k]=false->(l.take (k+1)).any bigO=false):=J0 fun h=>by
     rw[List.take_succ_eq_append_getElem hkl,List.any_append,hQ.out]
     simp[h]
    have x1:w.cell? ⟨(ad.add (k*9)).block,(ad.add (k*9)).off+1,none⟩=some (.slice l[k].ba l[k].b.length l[k].bc):=hcl 1 _ rfl
    have x2:w.cell? ⟨(ad.add (k*9)).block,(ad.add (k*9)).off+2,none⟩=some (.int .i64 l[k].rows):=hcl 2 _ rfl
    have x3:w.cell? ⟨(ad.add (k*9)).block,(ad.add (k*9)).off+3,none⟩=some (.int .i64 l[k].cols):=hcl 3 _ rfl
    have x8:w.cell? ⟨(ad.add (k*9)).block,(ad.add (k*9)).off+8,none⟩=some (.slice l[k].ta l[k].text.length l[k].tc):=hcl 8 _ rfl
    clear hcl hQ
    generalize l[k]=o at hyes hno x1 x2 x3 x8
    have p1:=fun w=>Ay4 o.rows w
    have p2:=fun w=>Ay4 o.cols w
    have hbig:Hid (bigO o=(Ai6 o.rows || Ai6 o.cols || decide (600<o.b.length) || decide (200<o.text.length))):=J0 rfl
    generalize Ai6 o.rows=s1 at p1 hbig
    generalize Ai6 o.cols=s2 at p2 hbig
    generalize o.b.length=bl at x1 hbig
    generalize o.text.length=tl at x8 hbig
    generalize o.rows=orw at x2 p1
    generalize o.cols=ocl at x3 p2
    replace p1:=J0 p1
    replace p2:=J0 p2
    cases s1 with
    |true =>
     have hy:=J0 (hyes.out (by rw[hbig.out];rfl))
     clear hyes hno hbig
     go_wp2_with ((go_at_call 15;(with_reducible refine(p1.out _).mono ?_);rintro e w1 ⟨rfl,rfl⟩))
     go_ret
     rw[hy.out]
     exact⟨rfl,rfl⟩
    |false =>
    cases s2 with
    |true =>
     have hy:=J0 (hyes.out (by rw[hbig.out];rfl))
     clear hyes hno hbig
     go_wp2_with (first|(go_at_call 15;(with_reducible refine(p1.out _).mono ?_);rintro e w1 ⟨rfl,rfl⟩)|(go_at_call 15;(with_reducible refine(p2.out _).mono ?_);rintro e w1 ⟨rfl,rfl⟩))
     go_ret
     rw[hy.out]
     exact⟨rfl,rfl⟩
    |false =>
    by_cases hb6:600<bl
    ·have hy:=J0 (hyes.out (by rw[hbig.out];simp[hb6]))
     have hb6I:(600:Int)<(bl:Int):=by omega
     clear hyes hno hbig
     go_wp2_with (first|(go_at_call 15;(with_reducible refine(p1.out _).mono ?_);rintro e w1 ⟨rfl,rfl⟩)|(go_at_call 15;(with_reducible refine(p2.out _).mono ?_);rintro e w1 ⟨rfl,rfl⟩))
     go_ret
     rw[hy.out]
     exact⟨rfl,rfl⟩
    have hb6I:¬(600:Int)<(bl:Int):=by omega
    by_cases ht2:200<tl
    ·have hy:=J0 (hyes.out (by rw[hbig.out];simp[ht2]))
     have ht2I:(200:Int)<(tl:Int):=by omega
     clear hyes hno hbig
     go_wp2_with (first|(go_at_call 15;(with_reducible refine(p1.out _).mono ?_);rintro e w1 ⟨rfl,rfl⟩)|(go_at_call 15;(with_reducible refine(p2.out _).mono ?_);rintro e w1 ⟨rfl,rfl⟩))
     go_ret
     rw[hy.out]
     exact⟨rfl,rfl⟩
    have ht2I:¬(200:Int)<(tl:Int):=by omega
    have hno2:=J0 (hno.out (by rw[hbig.out];simp[hb6,ht2]))
    clear hyes hno hbig
    go_wp2_with (first|(go_at_call 15;(with_reducible refine(p1.out _).mono ?_);rintro e w1 ⟨rfl,rfl⟩)|(go_at_call 15;(with_reducible refine(p2.out _).mono ?_);rintro e w1 ⟨rfl,rfl⟩))
    go_roundw
    case rel=>exact⟨k+1,by omega,by go_num,trivial,hno2⟩
    case measure=>simp[intOf];omega
   ·obtain rfl:k=n:=by omega
    have hE:=hQ.out
    rw[List.take_of_length_le (by rw[hn.out];exact J5 _)] at hE
    replace hE:=J0 hE
    clear hQ hl hn
    go_wp2
    go_ret
    rw[hE.out]
    exact⟨rfl,rfl⟩
end
end Go.Proofs.YtecnpoigegiooaaGreatDoor.Hos
namespace Go.Proofs.YtecnpoigegiooaaGreatDoor.Mds
open Go RowKit Com
theorem rowM:80<Tryz.prog.types.size:=of_decide_eq_true (by kernel_rfl)
theorem keyM:Tryz.prog.keyType 80=true:=by kernel_rfl
theorem wideM:(match Tryz.prog.underlying 80 with|some (.array _ _)|some (.struct _)=>true|_=>false)=true:=by kernel_rfl
theorem cM:Tryz.prog.cellsOf 80=8:=by kernel_rfl
theorem lits_m (m:Md) (D:Nat):∃l,Tryz.prog.keyLits (D+1+1) 80 (mA m).toList=some l:=by
 simp[Program.keyLits,mA,Tryz.underlying80,Tryz.underlying4,cM,cB]
theorem formed_m (m:Md):Value.formed Tryz.prog 80 (.agg (mA m))=true:=by
 simp[Value.formed,mA,Tryz.underlying80,cM]
theorem key_m (m:Md):∃l,keyOf Tryz.prog 80 (.agg (mA m))=some l:=by
 obtain⟨D,hD⟩:∃D,Tryz.prog.types.size+1=D+1+1:=⟨Tryz.prog.types.size - 1,by have:=rowM;omega⟩
 have hf:=formed_m m
 obtain⟨l,hl⟩:=lits_m m D
 rw[<- hD] at hl
 refine⟨.string (keyBytes l),?_⟩
 unfold keyOf
 rw[Tryz.underlying80]
 dsimp only
 rw[keyM,hf,if_pos (by rfl)]
 have e:(Value.agg (mA m)).cells.toList=(mA m).toList:=rfl
 rw[e,hl]
 rfl
theorem equal_m (m:Md) (w:World):(Op.equalIn 10000 80 (.agg (mA m)) (.agg (mA m))).run Tryz.prog w=.ok true w:=by
 obtain⟨l,hl⟩:=key_m m
 obtain⟨r,h1,h2⟩:=run_equal_deep (P:=Tryz.prog) w (m:=2) (by omega) (k:=80) (by kernel_rfl) wideM hl hl
 rw[h2.2 rfl] at h1
 exact h1
end Go.Proofs.YtecnpoigegiooaaGreatDoor.Mds
namespace Go.Proofs.YtecnpoigegiooaaGreatDoor.Hos
open Go RowKit Com Emu
theorem noSt:Tryz.prog.stoodInHeld 73=false:=by kernel_rfl
theorem fieldsE:Tryz.prog.underlying 73=some (.struct (Tryz.prog.fieldsOf 73)):=by
 unfold Program.fieldsOf
 rw[Tryz.underlying73]
theorem Am8 {P:Program} {d:Nat} {xs ys:Array Value} {f:Field} {fs:List Field} {v:Value} {w:World} (h1:(part f.type xs f.offset).run P w=.ok v w) (h2:(part f.type ys f.offset).run P w=.ok v w) (h3:(Op.equalIn d f.type v v).run P w=.ok true w):(Op.eqFields d xs ys (f::fs)).run P w=(Op.eqFields d xs ys fs).run P w:=by
 simp only[Op.eqFields]
 split
 ·simp only[Sem.run_bind,h1,h2,h3,Result.andThen_ok,Bool.not_true,Bool.false_eq_true,if_false]
 ·rfl
theorem eq_i {t:TypeId} {k:IntKind} (h:Tryz.prog.underlying t=some (.int k)) (n:Int) (w:World):(Op.equalIn 9999 t (.int k n) (.int k n)).run Tryz.prog w=.ok true w:=by
 rw[run_equalIn_int (P:=Tryz.prog) w 9998 t k k n n h,beq_self_eq_true]
theorem eq_b (b:Bool) (w:World):(Op.equalIn 9999 4 (.bool b) (.bool b)).run Tryz.prog w=.ok true w:=by
 rw[run_equalIn_bool' (P:=Tryz.prog) w 9998 4 b b Tryz.underlying4,beq_self_eq_true]
theorem equal_e (e:Ev) (w:World):(Op.equalIn 10000 73 (.agg (evA e)) (.agg (evA e))).run Tryz.prog w=.ok true w:=by
 rw[run_equalIn_struct (P:=Tryz.prog) w 9999 73 (evA e) (evA e) fieldsE noSt]
 unfold Program.fieldsOf
 rw[Tryz.underlying73]
 simp only
 rw[Am8 (v:=.int .u8 e.k) (by kernel_rfl) (by kernel_rfl) (eq_i Tryz.underlying5 _ w)]
 rw[Am8 (v:=.int .u64 e.ix) (by kernel_rfl) (by kernel_rfl) (eq_i Tryz.underlying58 _ w)]
 rw[Am8 (v:=.int .i64 e.line) (by kernel_rfl) (by kernel_rfl) (eq_i Tryz.underlying3 _ w)]
 rw[Am8 (v:=.int .i64 e.col) (by kernel_rfl) (by kernel_rfl) (eq_i Tryz.underlying3 _ w)]
 rw[Am8 (v:=.bool e.wide) (by kernel_rfl) (by kernel_rfl) (eq_b _ w)]
 rw[Am8 (v:=.int .i32 e.r) (by kernel_rfl) (by kernel_rfl) (eq_i Tryz.underlying21 _ w)]
 rw[Am8 (v:=.bool e.bl) (by kernel_rfl) (by kernel_rfl) (eq_b _ w)]
 rw[Am8 (v:=.bool e.la) (by kernel_rfl) (by kernel_rfl) (eq_b _ w)]
 rw[Am8 (v:=.bool e.fr) (by kernel_rfl) (by kernel_rfl) (eq_b _ w)]
 rw[Am8 (v:=.bool e.wr) (by kernel_rfl) (by kernel_rfl) (eq_b _ w)]
 rfl
theorem neq_e (e:Ev) (w:World):(binOp .neq 73 (.agg (evA e)) (.agg (evA e))).run Tryz.prog w=.ok (.bool false) w:=by
 simp only[run_neq_struct,equal_e,Result.andThen_ok]
 rfl
theorem guard_e (e:Ev) (x y:Operand) (w:World):(eqGuard .neq 73 x y (.agg (evA e)) (.agg (evA e))).run Tryz.prog w=.ok () w :=
 run_eqGuard_agg w .neq 73 x y _ _ Tryz.eqGuardType73
theorem eql_m (m:Mds.Md) (w:World):(binOp .eql 80 (.agg (Mds.mA m)) (.agg (Mds.mA m))).run Tryz.prog w=.ok (.bool true) w:=by
 simp only[run_eql_struct,Mds.equal_m,Result.andThen_ok]
theorem guardq_m (m:Mds.Md) (x y:Operand) (w:World):(eqGuard .eql 80 x y (.agg (Mds.mA m)) (.agg (Mds.mA m))).run Tryz.prog w=.ok () w :=
 run_eqGuard_agg w .eql 80 x y _ _ Tryz.eqGuardType80
end Go.Proofs.YtecnpoigegiooaaGreatDoor.Hos
namespace Go.Proofs.YtecnpoigegiooaaGreatDoor.Hos
open Go Com
def R32 (x:Int):Prop:=0<=x/\x<=1114111
theorem R32.wf {x:Int} (h:R32 x):(Lit.int .i32 x).wf=true:=by
 obtain⟨h1,h2⟩:=h
 exact WalkArith.wf_i32 (by omega)
structure ActW (A:Prs.Act):Prop where
 kind:0<=A.kind/\A.kind<=9
 r:R32 A.R
 fin:R32 A.final
 inter:∀x∈A.inter,R32 x
 two:A.inter.length<=2
 par:∀x∈A.params,0<=x/\x<=65535
 few:A.params.length<=32
structure PSW (S:Prs.PS):Prop where
 ok:S.Ok
 a:R32 S.sq.a
 b:R32 S.sq.b
theorem r0:R32 0:=⟨by omega,by omega⟩
theorem start_w:PSW Prs.start:=⟨Prs.start_ok,r0,r0⟩
def Gd (x:Prs.Stp):Prop:=(R32 x.2.sq.a/\R32 x.2.sq.b)/\∀A∈x.1,ActW A
theorem osc_w (t:List Int):ActW (Prs.oscA t):=⟨by simp[Prs.oscA],r0,r0,by simp[Prs.oscA],by simp[Prs.oscA],by simp[Prs.oscA],by simp[Prs.oscA]⟩
theorem Cp8 {r:Int} (h:R32 r):ActW (Prs.execA r):=⟨by simp[Prs.execA],h,r0,by simp[Prs.execA],by simp[Prs.execA],by simp[Prs.execA],by simp[Prs.execA]⟩
theorem print_w {r:Int} (h:R32 r):ActW (Prs.printA r):=⟨by simp[Prs.printA],h,r0,by simp[Prs.printA],by simp[Prs.printA],by simp[Prs.printA],by simp[Prs.printA]⟩
theorem Bw8 (S:Prs.PS):∀A∈Prs.leadA S,ActW A:=by
 unfold Prs.leadA
 split
 ·simpa using osc_w _
 ·simp
theorem Bg3 {S:Prs.PS} (ha:R32 S.sq.a) (hb:R32 S.sq.b) (s:Int):R32 (Prs.leadS S s).sq.a/\R32 (Prs.leadS S s).sq.b:=by
 unfold Prs.leadS
 simp only
 split
 ·exact⟨r0,r0⟩
 ·exact⟨ha,hb⟩
theorem Cu7 {q:Prs.Sq} (ha:R32 q.a) (hb:R32 q.b) {r:Int} (hr:R32 r):R32 (q.put r).a/\R32 (q.put r).b:=by
 unfold Prs.Sq.put
 split
 ·exact⟨ha,hb⟩
 ·split
  ·exact⟨ha,hr⟩
  ·exact⟨hr,hb⟩
theorem acts_w {q:Prs.Sq} (hq:q.Ok) (ha:R32 q.a) (hb:R32 q.b) {k r:Int} (hk:0<=k/\k<=9) (hr:R32 r):∀A∈q.acts k r,ActW A:=by
 unfold Prs.Sq.acts
 split
 ·simp
 ·intro A hA
  simp only[List.mem_singleton] at hA
  subst hA
  refine⟨hk,r0,hr,fun x hx=>?_,?_,fun x hx=>⟨hq.num.lo x hx,hq.num.hi x hx⟩,hq.num.len⟩
  ·have:=List.mem_of_mem_take hx
   simp only[List.mem_cons,List.not_mem_nil,or_false] at this
   rcases this with rfl|rfl
   ·exact ha
   ·exact hb
  ·show ([q.a,q.b].take q.cnt).length<=2
   rw[List.length_take]
   exact Nat.min_le_right _ _
section
variable {S:Prs.PS}{r:Int}
theorem As7 (ha:R32 S.sq.a) (hb:R32 S.sq.b) (s:Int):Gd (Prs.leadF S s):=⟨Bg3 ha hb s,Bw8 S⟩
theorem Cr8 (ha:R32 S.sq.a) (hb:R32 S.sq.b) (hr:R32 r) (s:Int):Gd (Prs.leadF (S.take r) s):=As7 (Cu7 ha hb hr).1 (Cu7 ha hb hr).2 s
theorem Cn3 (ha:R32 S.sq.a) (hb:R32 S.sq.b) {l:List Prs.Act} (hl:∀A∈l,ActW A):Gd (l,S):=⟨⟨ha,hb⟩,hl⟩
theorem Bu3 (ha:R32 S.sq.a) (hb:R32 S.sq.b):Gd ([],S):=Cn3 ha hb (by simp)
theorem Bj0 (ha:R32 S.sq.a) (hb:R32 S.sq.b) (hr:R32 r):Gd (Prs.execLeadF S r):=⟨Bg3 ha hb 0,fun A hA=>by
 rcases List.mem_append.1 hA with h|h
 ·exact Bw8 S A h
 ·simp only[List.mem_singleton] at h
  subst h
  exact Cp8 hr⟩
theorem leadS_ok (h:S.Ok) {s:Int}:((Prs.leadS S s).sq).Ok:=by
 unfold Prs.leadS
 simp only
 split
 ·exact Prs.emptySq_ok
 ·exact h.sq
theorem Bz1 (h:S.Ok) (ha:R32 S.sq.a) (hb:R32 S.sq.b) (hr:R32 r) {k:Int} (hk:0<=k/\k<=9) (s:Int):Gd (Prs.finishF S k r s):=⟨Bg3 ha hb s,fun A hA=>by
 rcases List.mem_append.1 hA with h1|h1
 ·exact Bw8 S A h1
 ·exact acts_w (leadS_ok h) (Bg3 ha hb s).1 (Bg3 ha hb s).2 hk hr A h1⟩
theorem Bi9 (h:S.Ok) (ha:R32 S.sq.a) (hb:R32 S.sq.b) (hr:R32 r):Gd (Prs.escInterF S r):=by
 unfold Prs.escInterF
 split
 ·exact Cr8 ha hb hr 2
 ·exact Bz1 h ha hb hr (by omega) 0
theorem cAct_in (s:Int):0<=Prs.cAct s/\Prs.cAct s<=9:=by
 unfold Prs.cAct
 split<;>omega
theorem Ci5 (h:S.Ok) (ha:R32 S.sq.a) (hb:R32 S.sq.b) (hr:R32 r):Gd (Prs.interF S r):=by
 unfold Prs.interF
 split
 ·exact Cr8 ha hb hr _
 ·split
  ·exact As7 ha hb _
  ·exact Bz1 h ha hb hr (cAct_in _) _
theorem Ck9 (h:S.Ok) (ha:R32 S.sq.a) (hb:R32 S.sq.b) (hr:R32 r):Gd (Prs.paramF S r):=by
 unfold Prs.paramF
 split
 ·exact As7 (S:=Prs.PS.num S _) (by exact ha) (by exact hb) _
 ·split
  ·exact As7 (S:=Prs.PS.num S _) (by exact ha) (by exact hb) _
  ·exact Ci5 h ha hb hr
theorem entry_g (h:S.Ok) (ha:R32 S.sq.a) (hb:R32 S.sq.b) (hr:R32 r):Gd (Prs.entryF S r):=by
 unfold Prs.entryF
 split
 ·exact As7 (S:=Prs.PS.priv S _) (by exact ha) (by exact hb) _
 ·exact Ck9 h ha hb hr
theorem Cu4 (ha:R32 S.sq.a) (hb:R32 S.sq.b):Gd (Prs.oscF S r):=by
 refine⟨?_,by simp[Prs.oscF]⟩
 unfold Prs.oscF
 simp only
 split
 ·exact⟨ha,hb⟩
 ·exact⟨ha,hb⟩
theorem Bz6 (ha:R32 S.sq.a) (hb:R32 S.sq.b) (hr:R32 r):Gd (Prs.groundF S r):=Cn3 ha hb (by simpa using print_w hr)
theorem escape_g (h:S.Ok) (ha:R32 S.sq.a) (hb:R32 S.sq.b) (hr:R32 r):Gd (Prs.escapeF S r):=by
 unfold Prs.escapeF
 repeat' split
 all_goals first|exact As7 ha hb _|exact Bi9 h ha hb hr
theorem step_g (h:S.Ok) (ha:R32 S.sq.a) (hb:R32 S.sq.b) (hr:R32 r):Gd (Prs.stepF S r):=by
 unfold Prs.stepF
 split
 ·exact Bz6 ha hb hr
 split
 ·exact escape_g h ha hb hr
 split
 ·exact Bi9 h ha hb hr
 split
 ·exact entry_g h ha hb hr
 split
 ·exact Ck9 h ha hb hr
 split
 ·exact Ci5 h ha hb hr
 split
 ·unfold Prs.csiIgnF
  split
  ·exact Bu3 ha hb
  ·exact As7 ha hb _
 split
 ·exact Cu4 ha hb
 ·exact Bu3 ha hb
theorem feedN_g (h:S.Ok) (ha:R32 S.sq.a) (hb:R32 S.sq.b) (hr:R32 r):Gd (Prs.feedN S r):=by
 unfold Prs.feedN
 split
 ·exact Bj0 ha hb hr
 split
 ·exact As7 ha hb _
 split
 ·unfold Prs.controlF
  split
  ·exact Cn3 ha hb (by simpa using Cp8 hr)
  ·split
   ·exact As7 ha hb _
   ·exact Bu3 ha hb
 split
 ·exact step_g h ha hb hr
 split
 ·exact Bu3 ha hb
 split
 ·unfold Prs.upperF
  repeat' split
  all_goals first|exact As7 ha hb _|exact Bj0 ha hb hr
 ·unfold Prs.beyondF
  split
  ·exact Bz6 ha hb hr
  ·split
   ·exact Cu4 ha hb
   ·exact Bu3 ha hb
theorem norm_r (r:Int):R32 (Prs.normF r):=by
 unfold Prs.normF R32
 split<;>omega
theorem PSW.feed (h:PSW S) (r:Int):PSW (Prs.feedF S r).2/\(∀A∈(Prs.feedF S r).1,ActW A)/\(Prs.feedF S r).1.length<=2:=by
 obtain⟨⟨g1,g2⟩,g3⟩:=feedN_g h.ok h.a h.b (norm_r r)
 have g:=Prs.feed_good h.ok r
 exact⟨⟨g.ok,g1,g2⟩,g3,g.few⟩
end
end Go.Proofs.YtecnpoigegiooaaGreatDoor.Hos
namespace Go.Proofs.YtecnpoigegiooaaGreatDoor.Eqt
open Go RowKit
section
variable {P:Program}{ops:Array Oper}{md:Region.Mode}{C:World->Prop}
def Bs9 (P:Program) (md:Region.Mode) (ops:Array Oper) (C:World->Prop) (n:Nat) (L:Array Bool->Act->Prop):Nat->Array Bool->Act->Prop
 |0,listed,a=>L listed a
 |f+1,listed,a=>Region.ready md ops listed≠[]/\∀i∈Region.ready md ops listed,i<n/\qOp P ops C i (Bs9 P md ops C n L f (listed.setIfInBounds i true)) a
theorem Ba9 {n g:Nat} {L:Array Bool->Act->Prop} {Q':Exit->Act->World->Prop} (hL:∀listed a w,C w->L listed a->wpAny P md ops Q' g listed a w) :
  ∀(f:Nat) (listed:Array Bool) (a:Act) (w:World),C w->Bs9 P md ops C n L f listed a->wpAny P md ops Q' (f+g) listed a w:=by
 intro f
 induction f with
 |zero=>intro listed a w hw h;rw[Nat.zero_add];exact hL _ _ _ hw h
 |succ f ih =>
  intro listed a w hw h
  rw[Nat.add_right_comm]
  exact⟨fun h0=>absurd h0 h.1,fun i hi=>wpOp_of_qOp hw (fun a' w' hw' h'=>ih _ a' w' hw' h') (h.2 i hi).2⟩
theorem headQ_first {n i:Nat} {oi:Oper} {v:Value} {L:Array Bool->Act->Prop} (hi:ops[i]?=some oi) (hsel:∀(j:Nat) (o:Oper) cs b,ops[j]?=some o->o.op≠.select cs b)
  (hs:Region.sinkB md ops n=true) (hc:Region.chainB md ops n=true) (hin:i<n) (hdone:∀listed a,L listed a->∀j∈Region.ready md ops listed,n<=j) :
  ∀(f:Nat) (listed:Array Bool) (a:Act),HeadInv md ops n listed ->
   (∀j oj,ops[j]?=some oj->j≠i->listed.getD j true=false->(∀e∈oj.after,Region.binds md e=true->e.on≠i)->oi.apart ops oj=true) ->
   i∈Region.ready md ops listed->YieldsIn P ops C oi v a->Bs9 P md ops C n L f (listed.setIfInBounds i true) (a.put oi.dst v)->Bs9 P md ops C n L (f+1) listed a:=by
 intro f
 induction f with
 |zero =>
  intro listed a inv hfree hr hy H
  have hlt:∀j∈Region.ready md ops listed,j<n:=fun j hj=>Nat.lt_of_not_le fun h=>absurd hj (tail_waits hs hc (Nat.lt_of_le_of_lt h (by obtain⟨_,o,ho,_⟩:=mem_ready.1 hj;exact(Array.getElem?_eq_some_iff.1 ho).1)) inv _ i rfl hin (mem_ready.1 hr).1 j h)
  refine⟨fun h=>(by rw[h] at hr;cases hr),fun j hj=>⟨hlt j hj,?_⟩⟩
  by_cases hji:j=i
  ·subst hji;exact hy.qOp hi H
  ·exact absurd (hdone _ _ H j (ready_mono hj hji)) (Nat.not_le_of_lt (hlt j hj))
 |succ f ih =>
  intro listed a inv hfree hr hy H
  have hun:=(mem_ready.1 hr).1
  have hlt:∀j∈Region.ready md ops listed,j<n:=fun j hj=>Nat.lt_of_not_le fun h=>absurd hj (tail_waits hs hc (Nat.lt_of_le_of_lt h (by obtain⟨_,o,ho,_⟩:=mem_ready.1 hj;exact(Array.getElem?_eq_some_iff.1 ho).1)) inv _ i rfl hin hun j h)
  refine⟨fun h=>(by rw[h] at hr;cases hr),fun j hj=>⟨hlt j hj,?_⟩⟩
  by_cases hji:j=i
  ·subst hji;exact hy.qOp hi H
  ·have h1:=(H.2 j (ready_mono hj hji)).2
   obtain⟨hjun,oj,hoj,hall⟩:=mem_ready.1 hj
   have hnot:∀e∈oj.after,Region.binds md e=true->e.on≠i:=fun e he hb heq=>by
    have h2:=hall e he hb
    rw[heq,getD_both hun] at h2
    cases h2
   have h2:=qOp_put hoj (hfree j oj hoj hji hjun hnot) (fun cs b=>hsel i oi cs b hi) (fun cs b=>hsel j oj cs b hoj) hy h1
   have hfree':∀k ok,ops[k]?=some ok->k≠i->(listed.setIfInBounds j true).getD k true=false->(∀e∈ok.after,Region.binds md e=true->e.on≠i)->oi.apart ops ok=true:=fun k ok hk hki hn hno=>by
    refine hfree k ok hk hki ?_ hno
    by_cases hjk:j=k
    ·exact hjk▸hjun
    ·rwa [getD_set_ne true hjk] at hn
   refine qOp_mono (fun a' h3=>ih (listed.setIfInBounds j true) a' (inv.set hj (hlt j hj)) hfree' (ready_mono hr (Ne.symm hji)) h3.1 ?_) h2
   rw[Array.setIfInBounds_comm _ _ hji]
   exact h3.2
theorem headQ_lex {n g:Nat} {Lq:Act->Prop} (hsel:Region.noSelect ops=true) (hs:Region.sinkB md ops n=true) (hc:Region.chainB md ops n=true) :
  ∀(l:List Oper) (k:Nat) (listed:Array Bool) (a:Act),(∀j,j<l.length->l[j]?=ops[k+j]?)->k+l.length=n->HeadInv md ops n listed->Region.lexHead md ops g l.length k listed=true->wpQuiet P ops C Lq l a ->
   Bs9 P md ops C n (fun listed' a'=>Region.seqB md ops g n listed'=true/\Lq a') l.length listed a:=by
 intro l
 induction l with
 |nil =>
  intro k listed a hl hk inv hB h
  obtain rfl:k=n:=by simpa using hk
  exact⟨by simpa[Region.lexHead] using hB,h⟩
 |cons o l ih =>
  intro k listed a hl hk inv hB h
  have h0:ops[k]?=some o:=by simpa using (hl 0 (by simp)).symm
  simp only[List.length_cons,Region.lexHead,Bool.and_eq_true] at hB
  obtain⟨⟨hr,hf⟩,hB'⟩:=hB
  have hkn:k<n:=by simp only[List.length_cons] at hk;omega
  have hr':k∈Region.ready md ops listed:=by simpa using hr
  obtain⟨v,hy,hK⟩:=yieldsIn_of_qOp (P:=P) (C:=C) h0 (K:=wpQuiet P ops C Lq l) (by unfold qOp;simp only[h0];exact h)
  exact headQ_first h0 (Region.noSelect_spec hsel) hs hc hkn (fun listed' a' hL=>seqB_ready hL.1) l.length listed a inv (Region.free_spec h0 hf) hr' hy
   (ih (k+1) _ _ (fun j hj=>by have:=hl (j+1) (by simp;omega);simpa[Nat.add_assoc,Nat.add_comm 1 j] using this) (by simp only[List.length_cons] at hk;omega) (inv.set hr' hkn) hB' hK)
theorem Bh6 {id:Nat} {Q:Exit->Act->World->Prop} {a:Act} {w:World} {l:List Oper} (n:Nat) (hB:Region.lexTailB .any l.toArray n=true) (hm:P.follows .mixedOrders=true) (hC:C w.drew)
  (h:wpQuiet P l.toArray C (fun a'=>∀w',C w'->wpList P l.toArray Q (l.drop n) a' w') (l.take n) a):(Code.region id l.toArray true).wp P Q a w:=by
 simp only[Region.lexTailB,Bool.and_eq_true,decide_eq_true_eq] at hB
 obtain⟨⟨⟨⟨hsel,hn⟩,hs⟩,hc⟩,hlex⟩:=hB
 have hn':n<l.length:=by simpa using hn
 have htl:(l.take n).length=n:=by simp;omega
 have hdl:(l.drop n).length=l.toArray.size - n:=by simp
 have inv0:HeadInv .any l.toArray n (Array.replicate l.toArray.size false) :=
  ⟨by simp,fun j oj _ hl=>(by rw[getD_replicate_false] at hl;cases hl),fun t _ ht=>getD_in (by simpa using ht) (getD_replicate_false _ _)⟩
 have H:=headQ_lex (md:=.any) (g:=l.toArray.size - n) hsel hs hc (l.take n) 0 _ a (fun j hj=>by
  have hj':j<n:=by rw[htl] at hj;exact hj
  simp[hj']) (by simpa using htl) inv0 (by rw[htl];exact hlex) h
 refine wp_region_any hm ?_
 have:=Ba9 (Q':=Q) (g:=l.toArray.size - n) (fun listed a' w' hw' hL=>by
  have h2:=wpAny_of_seq (md:=.any) (Q':=Q) (l.drop n) n listed a' w' (fun j=>by simp[List.getElem?_drop]) (by rw[hdl];exact hL.1) (hL.2 w' hw')
  rwa [hdl] at h2) _ _ _ _ hC H
 rw[htl,show n+(l.toArray.size - n)=l.toArray.size by omega] at this
 exact this
def Ext (w:World):Type:={ w':World // Below w.heap.size w w' }
instance (w:World):Nonempty (Ext w):=⟨⟨w,Below.refl _ _⟩⟩
def Ext.w {w:World} (k:Ext w):World:=k.1
theorem Ext.below {w:World} (k:Ext w):Below w.heap.size w k.w:=k.2
theorem region_ext_tail {id:Nat} {Q:Exit->Act->World->Prop} {a:Act} {w:World} {l:List Oper} (n:Nat) (hB:Region.lexTailB .any l.toArray n=true) (hm:P.follows .mixedOrders=true)
  (h:wpQuiet P l.toArray (fun w'=>∃k:Ext w,w'=k.w) (fun a'=>∀w',(∃k:Ext w,w'=k.w)->wpList P l.toArray Q (l.drop n) a' w') (l.take n) a):(Code.region id l.toArray true).wp P Q a w :=
 Bh6 n hB hm ⟨⟨w.drewN 1,below_drewN (Below.refl _ _) 1⟩,rfl⟩ h
theorem region_ext {id:Nat} {Q:Exit->Act->World->Prop} {a:Act} {w:World} {l:List Oper} (hB:Region.lexB .any l.toArray=true) (hm:P.follows .mixedOrders=true)
  (h:wpQuiet P l.toArray (fun w'=>∃k:Ext w,w'=k.w) (fun a'=>∀w',(∃k:Ext w,w'=k.w)->Q .normal a' w') l a):(Code.region id l.toArray true).wp P Q a w :=
 wp_region_quiet (C:=fun w'=>∃k:Ext w,w'=k.w) hm hB ⟨⟨w.drewN 1,below_drewN (Below.refl _ _) 1⟩,rfl⟩ (by simpa using h)
theorem q_ext {f:FuncId} {args:Array Value} {w:World} {k:Ext w} {v:Value} (h:Calls P f args k.w fun e w'=>e=.returned v/\Below k.w.heap.size k.w w'):Calls P f args k.w fun e w''=>e=.returned v/\∃k':Ext w,w''=k'.w :=
 h.mono fun _ w' ⟨he,hb⟩=>⟨he,⟨w',k.below.trans (hb.mono k.below.size)⟩,rfl⟩
theorem q_ext_same {f:FuncId} {args:Array Value} {w:World} {k:Ext w} {v:Value} (h:Calls P f args k.w fun e w'=>e=.returned v/\k.w=w'):Calls P f args k.w fun e w''=>e=.returned v/\∃k':Ext w,w''=k'.w :=
 h.mono fun _ _ ⟨he,hb⟩=>⟨he,k,hb.symm⟩
theorem q_ext_asks {f:FuncId} {args:Array Value} {w:World} {k:Ext w} {v:Value} (h:Calls P f args k.w fun e w'=>e=.returned v/\∃q,w'=k.w.drewN q):Calls P f args k.w fun e w''=>e=.returned v/\∃k':Ext w,w''=k'.w :=
 h.mono fun _ w' ⟨he,q,hb⟩=>⟨he,⟨w',hb▸below_drewN k.below q⟩,rfl⟩
theorem region_quiet_tail {id:Nat} {Q:Exit->Act->World->Prop} {a:Act} {w:World} {l:List Oper} (n:Nat) (hB:Region.lexTailB .any l.toArray n=true) (hm:P.follows .mixedOrders=true)
  (h:wpQuiet P l.toArray (fun w'=>∃k,w'=w.drewN k) (fun a'=>∀w',(∃k,w'=w.drewN k)->wpList P l.toArray Q (l.drop n) a' w') (l.take n) a):(Code.region id l.toArray true).wp P Q a w :=
 Bh6 n hB hm ⟨1,rfl⟩ h
end
