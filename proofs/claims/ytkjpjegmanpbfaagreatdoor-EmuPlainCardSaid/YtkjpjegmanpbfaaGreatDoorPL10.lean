/- Part 10 of the proof that the card of EmuPlain holds. -/
import Derived.Test.YtkjpjegmanpbfaaGreatDoorPL09
set_option maxHeartbeats 16000000
set_option maxRecDepth 100000
namespace Go.Proofs.YtkjpjegmanpbfaaGreatDoor.Scn
open Go Go.RowKit Go.Proofs.YtkjpjegmanpbfaaGreatDoor.Com Go.Proofs.YtkjpjegmanpbfaaGreatDoor.Rw Go.Proofs.YtkjpjegmanpbfaaGreatDoor.Lns
section
variable {B : Zn} {w w' : World} {x s nx most cols top bot n : Nat} {kp : Bool} {sv lv : Value} {xs : List Value} {R : List En} {L : List Nat}
theorem closeUp_any (h : LnX B w x s nx most kp cols sv lv top bot n xs R) (hone : OneL xs) (f k : Nat) (hf : f + k ≤ n) :
  Calls Tryz.prog 148 #[.pointer (some ⟨x, 0, none⟩), .agg #[.int .i64 f, .int .i64 k]] w (LnDone B w x s nx most kp cols sv lv top bot (n - k) (fun xs' => xs' = outA xs (f * 2) (k * 2)) R) := by
 rcases h.own.2 with ⟨rfl, rfl⟩ | ⟨g, cap, cur, rfl, hg, hh, hc, hm, hs, ht⟩
 ·obtain rfl : f = 0 := by omega
  obtain rfl : k = 0 := by omega
  obtain rfl : xs = [] := List.eq_nil_of_length_eq_zero (by simpa using h.own.1)
  exact closeUp_none h
 ·have hcur : xs ++ cur.toList.drop (n * 2) = cur.toList := by rw [← ht, List.take_append_drop]
  exact closeUp_some (e := f + k) (m := n - k) (tail := cur.toList.drop (n * 2)) h (by rw [hcur]; exact hh) (by rw [hcur]; simpa using hs) hone rfl (by omega) hf
theorem LnX.turned (h : LnX B w x s nx most kp cols sv lv top bot n xs R) {xs' : List Value} (h1 : w'.ownsRow 0 151 2 lv n xs') (ho : Only lv.ownBlock.toList w w') : LnX B w' x s nx most kp cols sv lv top bot n xs' R := by
 have hxl : x ∉ lv.ownBlock.toList := fun hm => absurd (Typ.inj h.typ (h.ltyp x (by simpa using hm)).2.2) (by decide)
 exact ⟨h.blk.only ho hxl, h1, h.store (ho.mono (by simp +contextual)), h.apart, h.lo.grow ho.size, h.small⟩
theorem room_own {g cap f k e m : Nat} {J tail : List Value} (he : e = f + k) (hm : m = n + k) (hf : f ≤ n) (hc : m ≤ cap) (hcm : cap ≤ maxLen) (hx : xs.length = n * 2) (hJ : J.length = k * 2) (hl : (xs ++ J ++ tail).length = cap * 2)
  (hb : Block w g 151 (splice (xs ++ J ++ tail) (e * 2) (xs.drop (f * 2))).toArray) : w.ownsRow 0 151 2 (.slice (some ⟨g, 0, none⟩) m cap) m (insA xs (f * 2) (((xs ++ J).drop (f * 2)).take (k * 2))) := by
 have hD : (xs.drop (f * 2)).length = n * 2 - f * 2 := by rw [List.length_drop, hx]
 have hxJ : (xs ++ J).length = m * 2 := by rw [List.length_append, hx, hJ]; omega
 have hJ2 : (((xs ++ J).drop (f * 2)).take (k * 2)).length = k * 2 := by rw [List.length_take, List.length_drop, hxJ]; omega
 have ho : (insA xs (f * 2) (((xs ++ J).drop (f * 2)).take (k * 2))).length = m * 2 := by rw [insA_len, hx, hJ2]; omega
 refine ⟨ho, .inr ⟨g, cap, _, rfl, Nat.zero_le _, hb, hc, hcm, ?_, ?_⟩⟩
 ·rw [List.size_toArray, length_splice _ _ _ (by rw [hD, hl]; omega), hl]
 ·show (splice (xs ++ J ++ tail) (e * 2) (xs.drop (f * 2))).take (m * 2) = _
  unfold splice insA
  have e1 : (xs ++ J ++ tail).take (e * 2) = xs.take (f * 2) ++ ((xs ++ J).drop (f * 2)).take (k * 2) := by
   rw [List.take_append_of_le_length (by omega)]
   have : e * 2 = f * 2 + k * 2 := by omega
   rw [this, List.take_add, List.take_append_of_le_length (by omega)]
  rw [e1, ← List.append_assoc, List.take_append_of_le_length (by rw [List.length_append, List.length_append, List.length_take, hJ2, hD]; omega), List.take_of_length_le (by rw [List.length_append, List.length_append, List.length_take, hJ2, hD]; omega), List.append_assoc]
def Room (xs : List Value) (f k : Nat) (xs' : List Value) : Prop := ∃ J, J.length = k * 2 ∧ OneL J ∧ xs' = insA xs (f * 2) J
theorem makeRoom_any (h : LnX B w x s nx most kp cols sv lv top bot n xs R) (hone : OneL xs) (f k : Nat) (hf : f ≤ n) (hk : n + k ≤ 1000) :
  Calls Tryz.prog 149 #[.pointer (some ⟨x, 0, none⟩), .agg #[.int .i64 f, .int .i64 k]] w (LnDone B w x s nx most kp cols sv lv top bot (n + k) (Room xs f k) R) := by
 have hbn := below_new w (.cells #[.int .i64 f, .int .i64 k] 138)
 have hxl := h.own.1
 obtain ⟨e, he⟩ : ∃ e, e = f + k := ⟨_, rfl⟩
 obtain ⟨m, hm⟩ : ∃ m, m = n + k := ⟨_, rfl⟩
 have hend := fun w => end_any f k e he (by omega) w
 have hbx := Block.made w 138 #[.int .i64 f, .int .i64 k]
 have hws : ∀ w1, Below w.heap.size w w1 → LnX B w1 x s nx most kp cols sv lv top bot n xs R := fun w1 hb => h.below hb
 have hlvlt := fun g hg => (h.ltyp g hg).2.1
 have hxlt := h.blk.lt
 obtain ⟨ao, c, hlv, _, _⟩ := h.shape
 obtain ⟨bx, hbxe⟩ : ∃ bx, bx = w.heap.size := ⟨_, rfl⟩
 replace hend := Lib.hid hend
 replace hws := Lib.hid hws
 replace he := Lib.hid he
 rw [← hm]
 replace hm := Lib.hid hm
 clear h
 go_enter Tryz.func149, Tryz.ntmps149
 go_wp2
 generalize w.alloc (.cells #[.int .i64 f, .int .i64 k] 138) = w0 at hbx hbn ⊢
 rw [← hbxe] at hbx ⊢
 have hbx2 := hbxe
 replace hbxe := Lib.hid hbxe
 have a1 := hbx.cell 1 rfl
 have hws0 := hws.out _ hbn
 have c3 := hws0.cells.2.2.2.1
 have hd0 : Below w0.heap.size w0 w0.drew := below_dr (Below.refl _ _) 1
 have hws1 := hws0.below hd0
 have hown := hws1.own
 have hbd := hws1.blk
 have hxn : x ∉ lv.ownBlock.toList := fun hm => absurd (Typ.inj hws0.typ (hws0.ltyp x (by simpa using hm)).2.2) (by decide)
 have hfin := fun lv' w2 J (hJ : J.length = k * 2) (h2 : w2.ownsRow 0 151 2 lv' m (xs ++ J)) (ho : Only lv.ownBlock.toList w0.drew w2) (ha : lv'.ownBlock = lv.ownBlock ∨ lv'.ownBlock = some w0.heap.size) => hws1.setL (lv' := lv') h2 ho (ha.imp id fun e => ⟨_, e, Nat.le_refl _⟩) (by rw [hm.out]; exact hk)
 have hbxl : bx ∉ x :: lv.ownBlock.toList := by
  intro hm
  rcases List.mem_cons.1 hm with hm | hm
  ·omega
  ·have := hlvlt bx (by simpa using hm); omega
 have hbx1 := hbx.only (Only.of_below hd0 []) (by simp)
 subst hlv
 replace hown := Lib.hid hown
 replace hbd := Lib.hid hbd
 replace hxn := Lib.hid hxn
 replace hfin := Lib.hid hfin
 replace hbxl := Lib.hid hbxl
 replace hbx1 := Lib.hid hbx1
 have hsz := Lib.hid hbn.size
 replace hbn := Lib.hid hbn
 clear hbx2 hws0 hws1 hws hbx hlvlt
 go_region_law (first
  | (refine step_appZ elemL Tryz.underlying3 zone rfl (.tmp 8) (.tmp 10) rfl 0 (.slice ao n c) n xs k rfl rfl hown.out (Nat.zero_le _) (by omega) ?_; intro lv2 w2 J hJ hJ1 hown2 ho2 hat2; rw [← hm.out] at hown2; have hbd2 := hbd.out.only ho2 hxn.out; have k2' := hbd2.cell 3 rfl; have f2 := hbd2.free 3; obtain ⟨a2, c2, rfl, _⟩ := owns_shape hown2))
 all_goals
  have h3' := hfin.out _ _ J hJ hown2 ho2 hat2
  have hb3 := hbx1.out.only h3'.2 hbxl.out
  have hat3 := hat2
  have hO3 := (Only.of_below hbn.out (x :: (Value.slice ao n c).ownBlock.toList)).trans ((Only.drewN _ _ 1).trans h3'.2)
  have h3 := h3'.1
  clear h3' hown2 ho2 hat2 hfin hbd2 k2' f2 hbxl hbx1 hxn hbd hown c3 a1 hbn
  generalize (w2.setCell ⟨x, 3, none⟩ (.slice a2 m c2)) = w3 at h3 hb3 hO3 ⊢
  have hd3 : Below w3.heap.size w3 w3.drew := below_dr (Below.refl _ _) 1
  have hws : ∀ w', Below w3.heap.size w3 w' → LnX B w' x s nx most kp cols sv (.slice a2 m c2) top bot m (xs ++ J) R := fun w' hb => h3.below hb
  have hS := fun w' (hb : Below w3.heap.size w3 w') => And.intro ((hb3.only (Only.of_below hb []) (by simp)).cell 0 rfl) (And.intro ((hb3.only (Only.of_below hb []) (by simp)).cell 1 rfl) (hws _ hb).cells.2.2.2.1)
  have c0 := hS w3 (Below.refl _ _)
  have c1 := hS w3.drew hd3
  obtain ⟨a0, a1, a2'⟩ := c0
  have hmo := hm.out
  have heo := he.out
  rcases h3.own.2 with ⟨e2, hm0⟩ | ⟨g, cap, cur0, e2, hgB, hh, hcap, hcapm, hcs, htk⟩
  ·simp only [Value.slice.injEq] at e2
   obtain ⟨rfl, _, rfl⟩ := e2
   obtain rfl : n = 0 := by omega
   obtain rfl : k = 0 := by omega
   obtain rfl : f = 0 := by omega
   obtain rfl : m = 0 := by omega
   obtain rfl : e = 0 := by omega
   clear hat3
   have hx0 : xs = [] := List.eq_nil_of_length_eq_zero (by simpa using hxl)
   have hJ0 : J = [] := List.eq_nil_of_length_eq_zero (by simpa using hJ)
   subst hx0
   subst hJ0
   have hend0 : ∀ w, Calls Tryz.prog 147 #[.agg #[.int .i64 0, .int .i64 0]] w fun r w' => r = .returned (.int .i64 0) ∧ Below w.heap.size w w' := hend.out
   replace hend0 := Lib.hid hend0
   replace hS := Lib.hid hS
   replace hd3 := Lib.hid hd3
   replace hws := Lib.hid hws
   replace hO3 := Lib.hid hO3
   clear hb3 hmo heo hend h3 hm0
   go_wp2
   go_region_held3 (fun w' => w'.cell? ⟨bx, 0, none⟩ = some (.int .i64 0) ∧ w'.cell? ⟨bx, 1, none⟩ = some (.int .i64 0) ∧ w'.cell? ⟨x, 3, none⟩ = some (.slice none 0 0))
    (first | exact ⟨a0, a1, a2'⟩ | exact c1 | exact hS.out _ hb2.out | go_keep)
    (first
     | (go_at_call 147; (with_reducible refine (hend0.out _).mono ?_); rintro e w2 ⟨rfl, hb2'⟩; have hb2 := Lib.hid (below_next hd3.out hb2'))
     | (refine step_copy0 rfl (.tmp 20) (.tmp 27) 115 115 rfl 151 Tryz.underlying115 ⟨2, infoL1⟩ _ _ _ _ _ _ rfl rfl (by rfl) ?_))
   have hres := Lib.hid (And.intro (hws.out _ hb2.out) (hO3.out.trans (Only.of_below hb2.out _)))
   go_end0
   exact ⟨⟨_, rfl⟩, _, [], hres.out.1, ⟨[], rfl, by simp [OneL], rfl⟩, hres.out.2⟩
  ·have hcc : m = m ∧ c2 = cap := by simp only [Value.slice.injEq] at e2; exact ⟨rfl, e2.2.2⟩
   obtain ⟨_, rfl⟩ := hcc
   have hag : a2 = some ⟨g, 0, none⟩ := by simp only [Value.slice.injEq] at e2; exact e2.1
   subst hag
   clear e2
   have hgO : Hid (g ∈ x :: (Value.slice ao n c).ownBlock.toList ∨ w.heap.size ≤ g) := Lib.hid (by
    rcases hat3 with hat3 | hat3
    ·refine .inl (List.mem_cons_of_mem _ ?_)
     rw [← hat3]
     simp [Value.ownBlock]
    ·have : g = w0.heap.size := by simpa [Value.ownBlock] using hat3
     exact .inr (by rw [this]; exact hsz.out))
   clear hat3
   have hbg : Block w3 g 151 (xs ++ J ++ cur0.toList.drop (m * 2)).toArray := by
    have : xs ++ J ++ cur0.toList.drop (m * 2) = cur0.toList := by rw [← htk, List.take_append_drop]
    rw [this]; exact hh
   have hcl : (xs ++ J ++ cur0.toList.drop (m * 2)).length = c2 * 2 := by
    have : xs ++ J ++ cur0.toList.drop (m * 2) = cur0.toList := by rw [← htk, List.take_append_drop]
    rw [this]; simpa using hcs
   clear hh hcs htk
   generalize cur0.toList.drop (m * 2) = tail at hbg hcl
   have hxg : x ≠ g := fun ee => absurd (Typ.inj h3.typ (ee ▸ (h3.ltyp g rfl).2.2)) (by decide)
   have hbxg : bx ≠ g := fun ee => absurd (Typ.inj (Block.typ hb3) (ee ▸ (h3.ltyp g rfl).2.2)) (by decide)
   have hbG := fun w' (hb : Below w3.heap.size w3 w') => hbg.only (Only.of_below hb []) (by simp)
   have hxJ : (xs ++ J).length = m * 2 := by rw [List.length_append, hxl, hJ]; omega
   have hpart := fun w' (hb : Below w3.heap.size w3 w') => (fun j v hj => by
    rw [Addr.add_lit]
    refine (hbG w' hb).cell _ ?_
    rw [List.getElem?_drop] at hj
    have hlt := (List.getElem?_eq_some_iff.1 hj).1
    rw [List.getElem?_toArray, List.append_assoc, List.getElem?_append_left hlt]
    exact hj : ∀ j v, (xs.drop (f * 2))[j]? = some v → w'.cell? ((⟨g, f * 2, none⟩ : Addr).add j) = some v)
   have hKS := fun w1 w' (hb : Below w3.heap.size w3 w1) (ho : Only [g] w1 w') => (⟨((hb3.only (Only.of_below hb []) (by simp)).only ho (by simpa using hbxg)).cell 0 rfl, ((hb3.only (Only.of_below hb []) (by simp)).only ho (by simpa using hbxg)).cell 1 rfl, ((hws _ hb).blk.only ho (by simpa using hxg)).cell 3 rfl⟩ : w'.cell? ⟨bx, 0, none⟩ = some (.int .i64 f) ∧ w'.cell? ⟨bx, 1, none⟩ = some (.int .i64 k) ∧ w'.cell? ⟨x, 3, none⟩ = some (.slice (some ⟨g, 0, none⟩) m c2))
   have hX : (xs.drop (f * 2)).length = (n - f) * 2 := by rw [List.length_drop, hxl]; omega
   have hone' : ∀ v ∈ xs.drop (f * 2), v.oneCell' = true := fun v hv => hone v (List.mem_of_mem_drop hv)
   obtain ⟨X, hXX⟩ : ∃ X, X = xs.drop (f * 2) := ⟨_, rfl⟩
   obtain ⟨cur, hcur⟩ : ∃ cur, cur = xs ++ J ++ tail := ⟨_, rfl⟩
   rw [← hXX] at hpart hX hone'
   rw [← hcur] at hbG hcl
   have hfm : f ≤ m := by omega
   have hem : e ≤ m := by omega
   have hfI : (f : Int) ≤ (m : Int) := by omega
   have heI : (e : Int) ≤ (m : Int) := by omega
   have hfc : f ≤ c2 := by omega
   have hec : e ≤ c2 := by omega
   obtain ⟨ad1, had1⟩ : ∃ ad1, (if c2 = f then (some ⟨g, 0, none⟩ : Option Addr) else some ⟨g, f * 2, none⟩) = ad1 := ⟨_, rfl⟩
   obtain ⟨ad2, had2⟩ : ∃ ad2, (if c2 = e then (some ⟨g, 0, none⟩ : Option Addr) else some ⟨g, e * 2, none⟩) = ad2 := ⟨_, rfl⟩
   have hd1 : Hid (0 < m - f → ad1 = some ⟨g, f * 2, none⟩) := Lib.hid fun h0 => by rw [← had1]; exact if_neg (by omega)
   have hd2 : Hid (0 < m - e → ad2 = some ⟨g, e * 2, none⟩) := Lib.hid fun h0 => by rw [← had2]; exact if_neg (by omega)
   have hfit : Hid (e * 2 + X.length ≤ cur.length) := Lib.hid (by rw [hX, hcl]; omega)
   have hmin : Hid (X.length = min (m - f) (m - e) * 2) := Lib.hid (by rw [hX]; congr 1; omega)
   have hfin := fun (w1 : World) (hb : Block w1 g 151 (splice cur (e * 2) X).toArray) => room_own (w := w1) (f := f) (J := J) (tail := tail) heo hmo hf hcap hcapm hxl hJ (by rw [← hcur]; exact hcl) (by rw [← hcur, ← hXX]; exact hb)
   have hturn := fun w1 w4 (hb : Below w3.heap.size w3 w1) (ho : Only [g] w1 w4) (hb4 : Block w4 g 151 (splice cur (e * 2) X).toArray) => (hws _ hb).turned (hfin w4 hb4) ho
   have hJJ : Room xs f k (insA xs (f * 2) (((xs ++ J).drop (f * 2)).take (k * 2))) := ⟨_, by rw [List.length_take, List.length_drop, hxJ]; omega, fun v hv => by
    rcases List.mem_append.1 (List.mem_of_mem_drop (List.mem_of_mem_take hv)) with hv | hv
    ·exact hone v hv
    ·exact hJ1 v hv, rfl⟩
   replace hfin := Lib.hid hfin
   replace hturn := Lib.hid hturn
   replace hJJ := Lib.hid hJJ
   replace hX := Lib.hid hX
   replace hpart := Lib.hid hpart
   replace hone' := Lib.hid hone'
   replace hbG := Lib.hid hbG
   replace hKS := Lib.hid hKS
   replace hS := Lib.hid hS
   replace hd3 := Lib.hid hd3
   replace hXX := Lib.hid hXX
   replace hcur := Lib.hid hcur
   replace hxl := Lib.hid hxl
   replace hcl := Lib.hid hcl
   replace hO3 := Lib.hid hO3
   clear hb3 hmo heo h3 hws hbg hxJ hJ
   go_wp2
   go_region_held3 (fun w' => w'.cell? ⟨bx, 0, none⟩ = some (.int .i64 f) ∧ w'.cell? ⟨bx, 1, none⟩ = some (.int .i64 k) ∧ w'.cell? ⟨x, 3, none⟩ = some (.slice (some ⟨g, 0, none⟩) m c2))
    (first | exact ⟨a0, a1, a2'⟩ | exact c1 | exact hS.out _ hb2.out | exact hKS.out _ _ hb2.out ho4 | go_keep)
    (first
     | (go_at_call 147; (with_reducible refine (hend.out _).mono ?_); rintro e w2 ⟨rfl, hb2'⟩; have hb2 := Lib.hid (below_next hd3.out hb2'))
     | (refine step_copyN rfl (.tmp 20) (.tmp 27) 115 115 rfl 151 2 Tryz.underlying115 infoL1 _ _ _ _ _ _ rfl rfl g (e * 2) cur 151 (hbG.out _ hb2.out) X hmin.out (fun h1 h2 => ⟨hd2.out h2, _, hd1.out h1, hpart.out _ hb2.out⟩) hfit.out hone'.out ?_; intro w4 hb4 ho4))
   have hres := Lib.hid (And.intro (hturn.out _ _ hb2.out ho4 hb4.out) (hO3.out.then ((Only.of_below hb2.out [g]).trans ho4) (fun q hq => by
    obtain rfl : q = g := by simpa using hq
    exact hgO.out)))
   go_end0
   exact ⟨⟨_, rfl⟩, _, _, hres.out.1, hJJ.out, hres.out.2⟩
end
structure MidX (B : Zn) (w : World) (x s nx most : Nat) (kp : Bool) (cols : Nat) (sv lv : Value) (top bot n : Nat) (xs : List Value) (L R : List En) : Prop where
 ln : LnX B w x s nx most kp cols sv lv top bot n xs R
 rows : ∀ e ∈ L, RowG 0 w e
 zr : ∀ e ∈ L, B e.d ∧ B e.g
 dd : ((L ++ R).map En.d).Nodup
 gg : ((L ++ R).map En.g).Nodup
theorem rowG_lt {w : World} {e : En} (h : RowG 0 w e) : e.d < w.heap.size ∧ e.g < w.heap.size := by
 obtain ⟨_, _, _, n, cap, tail, hx⟩ := h
 exact ⟨hx.ptr.lt, hx.row.lt⟩
theorem nodup_new {α : Type} (f : α → Nat) {l m : List α} {N : Nat} (h : (l.map f).Nodup) (hl : ∀ e ∈ l, f e < N) {x : α} (hx : N ≤ f x) (hp : List.Perm m (x :: l)) : (m.map f).Nodup := by
 rw [(hp.map f).nodup_iff, List.map_cons, List.nodup_cons]
 refine ⟨fun hm => ?_, h⟩
 obtain ⟨e, he, e1⟩ := List.mem_map.1 hm
 have := hl e he
 omega
section
variable {B : Zn} {w w' : World} {x s nx most cols top bot n : Nat} {kp : Bool} {sv lv : Value} {xs : List Value} {L R : List En}
theorem MidX.below (h : MidX B w x s nx most kp cols sv lv top bot n xs L R) (hb : Below w.heap.size w w') : MidX B w' x s nx most kp cols sv lv top bot n xs L R :=
 ⟨h.ln.below hb, fun e he => (h.rows e he).below hb, h.zr, h.dd, h.gg⟩
theorem MidX.fr {B' : Zn} {ts : List TypeId} (h : MidX B w x s nx most kp cols sv lv top bot n xs L R) (hf : Fr B' ts w w') (hn : NoPT ts) : MidX B w' x s nx most kp cols sv lv top bot n xs L R :=
 ⟨h.ln.fr hf hn, fun e he => rowG_fr (h.rows e he) hf hn, h.zr, h.dd, h.gg⟩
theorem MidX.sub (h : MidX B w x s nx most kp cols sv lv top bot n xs L R) {L' : List En} (hs : L'.Sublist L) : MidX B w x s nx most kp cols sv lv top bot n xs L' R :=
 ⟨h.ln, fun e he => h.rows e (hs.subset he), fun e he => h.zr e (hs.subset he), h.dd.sublist ((List.Sublist.append hs (List.Sublist.refl R)).map _), h.gg.sublist ((List.Sublist.append hs (List.Sublist.refl R)).map _)⟩
theorem MidX.keepRows (h : MidX B w x s nx most kp cols sv lv top bot n xs L R) (ho : Only (x :: lv.ownBlock.toList) w w') : ∀ e ∈ L, RowG 0 w' e := by
 have hno : ∀ {k : Nat} {t : TypeId}, Typ w k t → 142 ≠ t → 151 ≠ t → k ∉ x :: lv.ownBlock.toList := fun {k t} ht n1 n2 hm => by
  rcases List.mem_cons.1 hm with rfl | hm
  ·exact n1 (Typ.inj h.ln.typ ht)
  ·exact n2 (Typ.inj (h.ln.ltyp k (by simpa using hm)).2.2 ht)
 exact fun e he => (h.rows e he).only ho (hno (h.rows e he).typ.1 (by decide) (by decide)) (hno (h.rows e he).typ.2 (by decide) (by decide))
theorem MidX.ln' (h : MidX B w x s nx most kp cols sv lv top bot n xs L R) {lv' : Value} {n' : Nat} {xs' : List Value} {top' bot' cols' : Nat} (h1 : LnX B w' x s nx most kp cols' sv lv' top' bot' n' xs' R) (ho : Only (x :: lv.ownBlock.toList) w w') : MidX B w' x s nx most kp cols' sv lv' top' bot' n' xs' L R :=
 ⟨h1, h.keepRows ho, h.zr, h.dd, h.gg⟩
theorem MidX.lts (h : MidX B w x s nx most kp cols sv lv top bot n xs L R) : ∀ e ∈ L ++ R, e.d < w.heap.size ∧ e.g < w.heap.size := fun e he => by
 rcases List.mem_append.1 he with he | he
 ·exact rowG_lt (h.rows e he)
 ·exact rowG_lt (h.ln.st.2 e he)
theorem LnX.stored (h : LnX B w x s nx most kp cols sv lv top bot n xs R) {nx' : Nat} {sv' : Value} {R' : List En} {K : List Nat} (ho : Only K w w') (hx : x ∉ K) (hl : ∀ g, lv.ownBlock = some g → g ∉ K) (h1 : SX 0 w' s nx' most sv' R') (ha : sv'.ownBlock = sv.ownBlock ∨ ∃ g, sv'.ownBlock = some g ∧ w.heap.size ≤ g) (hr : ∀ e ∈ R', B e.d ∧ B e.g) : LnX B w' x s nx' most kp cols sv' lv top bot n xs R' := by
 refine ⟨h.blk.only ho hx, owns_only h.own ho hl, h1, fun g hg hs => ?_, h.lo.store ho.size ha hr, h.small⟩
 rcases ha with ha | ⟨g', ha, hge⟩
 ·exact h.apart g hg (ha ▸ hs)
 ·have := (h.ltyp g hg).2.1
  rw [ha] at hs
  cases hs
  omega
theorem MidX.push (h : MidX B w x s nx most kp cols sv lv top bot n xs L R) {id : Int} {dr : Nat} {l : List Cel} {e : Ending} (hp : PushDone 0 w s nx most sv R id dr l e w') :
  ∃ sv' R', MidX B w' x s nx most kp cols sv' lv top bot n xs L R' ∧ vw R' = pushL most (vw R) (id, l) ∧ Fr B PT w w' := by
 obtain ⟨sv', d, g, _, h1, hd, hg, ho, ha⟩ := hp
 have hno : ∀ {k : Nat} {t : TypeId}, Typ w k t → 119 ≠ t → 151 ≠ t → k ∉ s :: sv.ownBlock.toList := fun {k t} ht n1 n2 hm => by
  rcases List.mem_cons.1 hm with rfl | hm
  ·exact n1 (Typ.inj h.ln.st.typ ht)
  ·exact n2 (Typ.inj (h.ln.st.ptyp k (by simpa using hm)).2.2 ht)
 have hl : ∀ g, lv.ownBlock = some g → g ∉ s :: sv.ownBlock.toList := fun g hg hm => by
  rcases List.mem_cons.1 hm with rfl | hm
  ·exact absurd (Typ.inj h.ln.st.typ (h.ln.ltyp g hg).2.2) (by decide)
  ·exact h.ln.apart g hg (by simpa using hm)
 have hsub : ∀ (f : En → Nat), ((L ++ R).map f).Nodup → w.heap.size ≤ f (En.mk id d g dr l) → (∀ e ∈ L ++ R, f e < w.heap.size) → ((L ++ pushL most R (En.mk id d g dr l)).map f).Nodup := fun f hn hf hlt => by
  have h2 : ((L ++ (R ++ [(En.mk id d g dr l)])).map f).Nodup := nodup_new f hn hlt hf (by rw [← List.append_assoc]; exact List.perm_append_singleton _ _)
  refine h2.sublist ((List.Sublist.append (List.Sublist.refl L) ?_).map f)
  unfold pushL
  split
  ·exact List.drop_sublist _ _
  ·exact List.Sublist.refl _
 refine ⟨sv', pushL most R (En.mk id d g dr l), ⟨h.ln.stored ho (hno h.ln.typ (by decide) (by decide)) hl h1 ha (fun e he => (pushL_mem he).elim (fun he => h.ln.lo.r e he) (fun he => by subst he; exact ⟨h.ln.lo.up _ hd, h.ln.lo.up _ hg⟩)), fun e he => (h.rows e he).only ho (hno (h.rows e he).typ.1 (by decide) (by decide)) (hno (h.rows e he).typ.2 (by decide) (by decide)), h.zr, hsub En.d h.dd hd (fun e he => (h.lts e he).1), hsub En.g h.gg hg (fun e he => (h.lts e he).2)⟩, ?_, ?_⟩
 ·unfold vw; exact pushL_map _ _ _ _
 ·refine Fr.of_only ho fun k hk _ => ?_
  rcases List.mem_cons.1 hk with rfl | hm
  ·exact ⟨h.ln.lo.s, _, by simp [PT], h.ln.st.typ⟩
  ·have := h.ln.st.ptyp k (by simpa using hm)
   exact ⟨h.ln.lo.p k (by simpa using hm), _, by simp [PT], this.2.2⟩
theorem MidX.fresh (h : MidX B w x s nx most kp cols sv lv top bot n xs L R) {d g : Nat} {l : List Cel} (h1 : SX 0 w' s (nx + 1) most sv R) (hr : RowG w.heap.size w' ⟨nx, d, g, 0, l⟩) (ho : Only [s] w w') {L' : List En} (hp : List.Perm L' (⟨nx, d, g, 0, l⟩ :: L)) :
  MidX B w' x s (nx + 1) most kp cols sv lv top bot n xs L' R ∧ Fr B PT w w' := by
 have hno : ∀ {k : Nat} {t : TypeId}, Typ w k t → 119 ≠ t → k ∉ [s] := fun {k t} ht n1 hm => by
  obtain rfl : k = s := by simpa using hm
  exact n1 (Typ.inj h.ln.st.typ ht)
 obtain ⟨g1, g2, g3, g4⟩ := hr
 have hpp : List.Perm (L' ++ R) (⟨nx, d, g, 0, l⟩ :: (L ++ R)) := hp.append_right R
 refine ⟨⟨h.ln.stored ho (hno h.ln.typ (by decide)) (fun g hg => hno (h.ln.ltyp g hg).2.2 (by decide)) h1 (.inl rfl) h.ln.lo.r, fun e he => ?_, fun e he => ?_, nodup_new En.d h.dd (fun e he => (h.lts e he).1) g2 hpp, nodup_new En.g h.gg (fun e he => (h.lts e he).2) g3 hpp⟩, ?_⟩
 ·rcases List.mem_cons.1 (hp.subset he) with rfl | he
  ·exact ⟨g1, Nat.zero_le _, Nat.zero_le _, g4⟩
  ·exact (h.rows e he).only ho (hno (h.rows e he).typ.1 (by decide)) (hno (h.rows e he).typ.2 (by decide))
 ·rcases List.mem_cons.1 (hp.subset he) with rfl | he
  ·exact ⟨h.ln.lo.up _ g2, h.ln.lo.up _ g3⟩
  ·exact h.zr e he
 ·refine Fr.of_only ho fun k hk _ => ?_
  obtain rfl : k = s := by simpa using hk
  exact ⟨h.ln.lo.s, _, by simp [PT], h.ln.st.typ⟩
theorem fl_pair (A C : List En) (J : List Value) (e : En) (u v : Value) {i : Nat} (hi : A.length = i) : ((fl lineC A ++ (u :: v :: J ++ fl lineC C)).set (i * 2) (.int .i64 e.id)).set (i * 2 + 1) (.pointer (some ⟨e.d, 0, none⟩)) = fl lineC (A ++ [e]) ++ (J ++ fl lineC C) := by
 have hl : (fl lineC A).length = i * 2 := by rw [fl_length lineC_length, hi]
 rw [List.set_append_right _ _ (by omega), hl, Nat.sub_self, List.cons_append, List.set_cons_zero, List.set_append_right _ _ (by omega), hl, show i * 2 + 1 - i * 2 = 1 by omega, List.cons_append, List.set_cons_succ, List.set_cons_zero, fl_app, fl_one]
 simp [lineC]
theorem MidX.place {g c : Nat} {A C : List En} {J : List Value} {u v : Value} {i : Nat} (h : MidX B w x s nx most kp cols sv (.slice (some ⟨g, 0, none⟩) n c) top bot n (fl lineC A ++ (u :: v :: J ++ fl lineC C)) L R) (hi : A.length = i) (e : En) :
  MidX B ((w.setCell ⟨g, i * 2, none⟩ (.int .i64 e.id)).setCell ⟨g, i * 2 + 1, none⟩ (.pointer (some ⟨e.d, 0, none⟩))) x s nx most kp cols sv (.slice (some ⟨g, 0, none⟩) n c) top bot n (fl lineC (A ++ [e]) ++ (J ++ fl lineC C)) L R ∧
  Only [g] w ((w.setCell ⟨g, i * 2, none⟩ (.int .i64 e.id)).setCell ⟨g, i * 2 + 1, none⟩ (.pointer (some ⟨e.d, 0, none⟩))) := by
 obtain ⟨o1, _⟩ := World.ownsRow.stored h.ln.own (i * 2) (.int .i64 e.id)
 obtain ⟨o2, _⟩ := World.ownsRow.stored o1 (i * 2 + 1) (.pointer (some ⟨e.d, 0, none⟩))
 rw [fl_pair A C J e u v hi] at o2
 have ho : Only [g] w ((w.setCell ⟨g, i * 2, none⟩ (.int .i64 e.id)).setCell ⟨g, i * 2 + 1, none⟩ (.pointer (some ⟨e.d, 0, none⟩))) := (Only.setCell w ⟨g, i * 2, none⟩ _).trans (Only.setCell _ ⟨g, i * 2 + 1, none⟩ _)
 have h1 := h.ln.turned o2 (by simpa [Value.ownBlock] using ho)
 exact ⟨h.ln' h1 (ho.mono (by simp [Value.ownBlock])), ho⟩
end
section
variable {B : Zn} {w w' : World} {x s nx most cols top bot n : Nat} {kp : Bool} {sv lv : Value} {xs : List Value} {L R : List En}
theorem forget_any (v : Value) (id : Int) (d : Nat) (w : World) : Calls Tryz.prog 80 #[v, .agg #[.int .i64 id, .pointer (some ⟨d, 0, none⟩)]] w fun e w' => (∃ v, e = .returned v) ∧ Below w.heap.size w w' := by
 have hb := below_new w (.cells #[.int .i64 id, .pointer (some ⟨d, 0, none⟩)] 151)
 go_enter Tryz.func80, Tryz.ntmps80
 go_wp2
 go_end0
 exact ⟨⟨_, rfl⟩, hb⟩
def KeepDone (B : Zn) (w : World) (x s nx most : Nat) (kp : Bool) (cols : Nat) (lv : Value) (top bot n : Nat) (xs : List Value) (L R : List En) (id : Int) (l : List Cel) (e : Ending) (w' : World) : Prop :=
 (∃ v, e = .returned v) ∧ ∃ sv' R', MidX B w' x s nx most kp cols sv' lv top bot n xs L R' ∧ vw R' = pushL most (vw R) (id, l) ∧ Fr B PT w w'
theorem keep_any (h : MidX B w x s nx most kp cols sv lv top bot n xs L R) (e0 : En) (he : RowG 0 w e0) (hid : 1 ≤ e0.id ∧ e0.id < nx) : Calls Tryz.prog 151 #[.pointer (some ⟨x, 0, none⟩), .agg #[.int .i64 e0.id, .pointer (some ⟨e0.d, 0, none⟩)]] w (KeepDone B w x s nx most kp cols lv top bot n xs L R e0.id e0.l) := by
 have hbn := below_new w (.cells #[.int .i64 e0.id, .pointer (some ⟨e0.d, 0, none⟩)] 151)
 have hbx := Block.made w 151 #[.int .i64 e0.id, .pointer (some ⟨e0.d, 0, none⟩)]
 have hws := fun w1 (hb : Below w.heap.size w w1) => h.below hb
 have hwe := fun w1 (hb : Below w.heap.size w w1) => he.below hb
 have hxlt := h.ln.blk.lt
 have hslt := h.ln.st.lt
 have hplt := fun g hg => (h.ln.st.ptyp g hg).2.1
 obtain ⟨bx, hbxe⟩ : ∃ bx, bx = w.heap.size := ⟨_, rfl⟩
 obtain ⟨id, d, g0, dr, l⟩ := e0
 simp only at hid hbn hbx ⊢
 replace hws := Lib.hid hws
 replace hwe := Lib.hid hwe
 replace hid := Lib.hid hid
 clear h he
 go_enter Tryz.func151, Tryz.ntmps151
 go_wp2
 generalize w.alloc (.cells #[.int .i64 id, .pointer (some ⟨d, 0, none⟩)] 151) = w0 at hbx hbn ⊢
 rw [← hbxe] at hbx ⊢
 have hbxl : bx ∉ s :: sv.ownBlock.toList := fun hm => by
  rcases List.mem_cons.1 hm with e | hm
  ·omega
  ·have := hplt bx (by simpa using hm); omega
 replace hbxe := Lib.hid hbxe
 have hd0 : Below w0.heap.size w0 w0.drew := below_dr (Below.refl _ _) 1
 have hS := fun w' (hb : Below w0.heap.size w0 w') => And.intro (hws.out _ (below_next hbn hb)).ln.cells.1 (And.intro ((hbx.only (Only.of_below hb []) (by simp)).cell 0 rfl) ((hbx.only (Only.of_below hb []) (by simp)).cell 1 rfl))
 obtain ⟨a0, a1, a2⟩ := hS w0 (Below.refl _ _)
 have c1 := hS _ hd0
 have hpu : Calls Tryz.prog 200 #[.pointer (some ⟨s, 0, none⟩), .agg #[.int .i64 id, .pointer (some ⟨d, 0, none⟩)]] w0.drew fun e w' => (∃ v, e = .returned v) ∧ (w'.cell? ⟨x, 0, none⟩ = some (.pointer (some ⟨s, 0, none⟩)) ∧ w'.cell? ⟨bx, 0, none⟩ = some (.int .i64 id) ∧ w'.cell? ⟨bx, 1, none⟩ = some (.pointer (some ⟨d, 0, none⟩))) ∧ ∃ sv' R', MidX B w' x s nx most kp cols sv' lv top bot n xs L R' ∧ vw R' = pushL most (vw R) (id, l) ∧ Fr B PT w w' := by
  have hb1 := below_next hbn hd0
  have hm1 := hws.out _ hb1
  obtain ⟨q1, q2, q3, q4, q5, q6, q7⟩ := hwe.out _ hb1
  refine (push_yes hm1.ln.st id hid.out dr q7 q1).mono fun e w' hp => ?_
  have hO := hp
  obtain ⟨_, _, _, he, _, _, _, hO, _⟩ := hO
  obtain ⟨sv', R', m1, m2, m3⟩ := hm1.push hp
  have hb2 := ((hbx.only (Only.of_below hd0 []) (by simp)).only hO hbxl)
  exact ⟨⟨_, he⟩, ⟨m1.ln.cells.1, hb2.cell 0 rfl, hb2.cell 1 rfl⟩, sv', R', m1, m2, (Fr.of_below hb1).trans m3⟩
 replace hpu := Lib.hid hpu
 replace hS := Lib.hid hS
 clear hbx hbn hbxl hplt
 go_region_held3 (fun w' => w'.cell? ⟨x, 0, none⟩ = some (.pointer (some ⟨s, 0, none⟩)) ∧ w'.cell? ⟨bx, 0, none⟩ = some (.int .i64 id) ∧ w'.cell? ⟨bx, 1, none⟩ = some (.pointer (some ⟨d, 0, none⟩)))
  (first | exact ⟨a0, a1, a2⟩ | exact c1 | exact hz)
  (first
   | (go_at_call 200; (with_reducible refine hpu.out.mono ?_); rintro e w2 ⟨⟨v2, rfl⟩, hz, hres⟩))
 replace hres := Lib.hid hres
 go_end0
 exact ⟨⟨_, rfl⟩, hres.out⟩
end
end Go.Proofs.YtkjpjegmanpbfaaGreatDoor.Scn
