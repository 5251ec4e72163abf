/-
  row: one call of the law's list, done to the program's row and to the reference's.
-/
import Derived.Test.YtnnaagkdlmamjaaRTwo
import Derived.Test.YtnnaagkdlmamjaaROps6
import Derived.Deep.CutRange
namespace Go.Proofs.Ytnnaagkdlmamjaa.Rw
open Go Go.RowKit Go.Proofs.Ytnnaagkdlmamjaa.Com

structure DoSt (B : Nat) (w0 w : World) (d dr b : Nat) (o : Opr) (l l2 : List Cel) : Prop where
  two : Two B w d dr l l2
  box : Block w b 36 (opV o).toArray
  fr : Fr B ts4 w0 w
def OpCells (w : World) (b : Nat) (k c n r : Int) (wd : Bool) (f bb g : Int) : Prop := w.cell? ⟨b, 0, none⟩ = some (.int .i64 k) ∧ w.cell? ⟨b, 1, none⟩ = some (.int .i64 c) ∧ w.cell? ⟨b, 2, none⟩ = some (.int .i64 n) ∧ w.cell? ⟨b, 3, none⟩ = some (.int .i32 r) ∧ w.cell? ⟨b, 4, none⟩ = some (.bool wd) ∧ w.cell? ⟨b, 5, none⟩ = some (.int .u32 f) ∧ w.cell? ⟨b, 6, none⟩ = some (.int .u32 bb) ∧ w.cell? ⟨b, 7, none⟩ = some (.int .u16 g)
section
variable {B : Nat} {w0 w w' : World} {d dr b : Nat} {k c n r : Int} {wd : Bool} {f bb g : Int} {l l2 l' l2' : List Cel}
theorem DoSt.cells (h : DoSt B w0 w d dr b ⟨k, c, n, r, wd, ⟨f, bb, g⟩⟩ l l2) : OpCells w b k c n r wd f bb g :=
  ⟨h.box.cell 0 rfl, h.box.cell 1 rfl, h.box.cell 2 rfl, h.box.cell 3 rfl, h.box.cell 4 rfl, h.box.cell 5 rfl, h.box.cell 6 rfl, h.box.cell 7 rfl⟩
theorem DoSt.cellsH (h : Hid (DoSt B w0 w d dr b ⟨k, c, n, r, wd, ⟨f, bb, g⟩⟩ l l2)) : w.cell? ⟨b, 0, none⟩ = some (.int .i64 k) ∧ w.cell? ⟨b, 1, none⟩ = some (.int .i64 c) ∧ w.cell? ⟨b, 2, none⟩ = some (.int .i64 n) ∧ w.cell? ⟨b, 3, none⟩ = some (.int .i32 r) ∧ w.cell? ⟨b, 4, none⟩ = some (.bool wd) ∧ w.cell? ⟨b, 5, none⟩ = some (.int .u32 f) ∧ w.cell? ⟨b, 6, none⟩ = some (.int .u32 bb) ∧ w.cell? ⟨b, 7, none⟩ = some (.int .u16 g) := h.out.cells
theorem DoSt.step {o : Opr} (h : DoSt B w0 w d dr b o l l2) (h2 : Two B w' d dr l' l2') (hf : Fr B ts4 w w') : Hid (DoSt B w0 w' d dr b o l' l2') := Lib.hid ⟨h2, Block.fr h.box hf (.inl (by decide)), h.fr.trans hf⟩
theorem DoSt.drawn {o : Opr} (h : DoSt B w0 w d dr b o l l2) : Hid (DoSt B w0 w.drew d dr b o l l2) := h.step (h.two.below (below_dr (a := w) (b := w) (Below.refl _ _) 1)) (Fr.of_below (below_dr (a := w) (b := w) (Below.refl _ _) 1))
theorem DoSt.start {o : Opr} (h : Two B w d dr l l2) : DoSt B w (w.alloc (.cells (opV o).toArray 36)) d dr w.heap.size o l l2 :=
  ⟨h.below (below_new _ _), Block.made w _ _, Fr.of_below (below_new _ _)⟩

def DoNext (B : Nat) (w0 : World) (d dr b : Nat) (o : Opr) (l l2 : List Cel) (v : Value) (e : Ending) (w' : World) : Prop := e = .returned v ∧ Hid (DoSt B w0 w' d dr b o l l2)
def DoAny (B : Nat) (w0 : World) (d dr b : Nat) (o : Opr) (l l2 : List Cel) (e : Ending) (w' : World) : Prop := (∃ v, e = .returned v) ∧ Hid (DoSt B w0 w' d dr b o l l2)
theorem do_put (h : Hid (DoSt B w0 w d dr b ⟨k, c, n, r, wd, ⟨f, bb, g⟩⟩ l l2)) (hc : -9223372036854775808 ≤ c ∧ c ≤ 9223372036854775807) : Calls Try.prog 14 #[.pointer (some ⟨d, 0, none⟩), .int .i64 c, .int .i32 r, .bool wd, .agg #[.int .u32 f, .int .u32 bb, .int .u16 g]] w (DoNext B w0 d dr b ⟨k, c, n, r, wd, ⟨f, bb, g⟩⟩ (putL l c r wd ⟨f, bb, g⟩) (l2) (.int .i64 (putV l c r wd ⟨f, bb, g⟩))) :=
  (two_put h.out.two c r hc wd ⟨f, bb, g⟩).mono fun _ _ ho => ⟨ho.1, h.out.step ho.2.1 ho.2.2⟩
theorem dr_put (h : Hid (DoSt B w0 w d dr b ⟨k, c, n, r, wd, ⟨f, bb, g⟩⟩ l l2)) (hc : -9223372036854775808 ≤ c ∧ c ≤ 9223372036854775807) : Calls Try.prog 32 #[.pointer (some ⟨dr, 0, none⟩), .int .i64 c, .int .i32 r, .bool wd, .agg #[.int .u32 f, .int .u32 bb, .int .u16 g]] w (DoNext B w0 d dr b ⟨k, c, n, r, wd, ⟨f, bb, g⟩⟩ (l) (putL l2 c r wd ⟨f, bb, g⟩) (.int .i64 (putV l2 c r wd ⟨f, bb, g⟩))) :=
  (ref_put h.out.two c r hc wd ⟨f, bb, g⟩).mono fun _ _ ho => ⟨ho.1, h.out.step ho.2.1 ho.2.2⟩
theorem do_join (h : Hid (DoSt B w0 w d dr b ⟨k, c, n, r, wd, ⟨f, bb, g⟩⟩ l l2)) : Calls Try.prog 15 #[.pointer (some ⟨d, 0, none⟩), .int .i64 c, .int .i32 r] w (DoNext B w0 d dr b ⟨k, c, n, r, wd, ⟨f, bb, g⟩⟩ (joiL l c r) (l2) (.int .i64 (joiV l c r))) :=
  (two_join h.out.two c r).mono fun _ _ ho => ⟨ho.1, h.out.step ho.2.1 ho.2.2⟩
theorem dr_join (h : Hid (DoSt B w0 w d dr b ⟨k, c, n, r, wd, ⟨f, bb, g⟩⟩ l l2)) : Calls Try.prog 33 #[.pointer (some ⟨dr, 0, none⟩), .int .i64 c, .int .i32 r] w (DoNext B w0 d dr b ⟨k, c, n, r, wd, ⟨f, bb, g⟩⟩ (l) (joiL l2 c r) (.int .i64 (joiV l2 c r))) :=
  (ref_join h.out.two c r).mono fun _ _ ho => ⟨ho.1, h.out.step ho.2.1 ho.2.2⟩
theorem do_erase (h : Hid (DoSt B w0 w d dr b ⟨k, c, n, r, wd, ⟨f, bb, g⟩⟩ l l2)) : Calls Try.prog 13 #[.pointer (some ⟨d, 0, none⟩), .int .i64 c, .int .i64 n, .agg #[.int .u32 f, .int .u32 bb, .int .u16 g]] w (DoNext B w0 d dr b ⟨k, c, n, r, wd, ⟨f, bb, g⟩⟩ (eraL l c n ⟨f, bb, g⟩) (l2) (.int .i64 0)) :=
  (two_erase h.out.two c n ⟨f, bb, g⟩).mono fun _ _ ho => ⟨ho.1, h.out.step ho.2.1 ho.2.2⟩
theorem dr_erase (h : Hid (DoSt B w0 w d dr b ⟨k, c, n, r, wd, ⟨f, bb, g⟩⟩ l l2)) : Calls Try.prog 34 #[.pointer (some ⟨dr, 0, none⟩), .int .i64 c, .int .i64 n, .agg #[.int .u32 f, .int .u32 bb, .int .u16 g]] w (DoAny B w0 d dr b ⟨k, c, n, r, wd, ⟨f, bb, g⟩⟩ (l) (eraL l2 c n ⟨f, bb, g⟩)) :=
  (ref_erase' h.out.two c n ⟨f, bb, g⟩).mono fun _ _ ho => ⟨ho.1, h.out.step ho.2.1 ho.2.2⟩
theorem do_insert (h : Hid (DoSt B w0 w d dr b ⟨k, c, n, r, wd, ⟨f, bb, g⟩⟩ l l2)) : Calls Try.prog 19 #[.pointer (some ⟨d, 0, none⟩), .int .i64 c, .int .i64 n, .agg #[.int .u32 f, .int .u32 bb, .int .u16 g]] w (DoNext B w0 d dr b ⟨k, c, n, r, wd, ⟨f, bb, g⟩⟩ (inL l c n ⟨f, bb, g⟩) (l2) (.int .i64 0)) :=
  (two_insert h.out.two c n ⟨f, bb, g⟩).mono fun _ _ ho => ⟨ho.1, h.out.step ho.2.1 ho.2.2⟩
theorem dr_insert (h : Hid (DoSt B w0 w d dr b ⟨k, c, n, r, wd, ⟨f, bb, g⟩⟩ l l2)) : Calls Try.prog 35 #[.pointer (some ⟨dr, 0, none⟩), .int .i64 c, .int .i64 n, .agg #[.int .u32 f, .int .u32 bb, .int .u16 g]] w (DoAny B w0 d dr b ⟨k, c, n, r, wd, ⟨f, bb, g⟩⟩ (l) (inL l2 c n ⟨f, bb, g⟩)) :=
  (ref_insert' h.out.two c n ⟨f, bb, g⟩).mono fun _ _ ho => ⟨ho.1, h.out.step ho.2.1 ho.2.2⟩
theorem do_delete (h : Hid (DoSt B w0 w d dr b ⟨k, c, n, r, wd, ⟨f, bb, g⟩⟩ l l2)) : Calls Try.prog 20 #[.pointer (some ⟨d, 0, none⟩), .int .i64 c, .int .i64 n, .agg #[.int .u32 f, .int .u32 bb, .int .u16 g]] w (DoNext B w0 d dr b ⟨k, c, n, r, wd, ⟨f, bb, g⟩⟩ (deL l c n ⟨f, bb, g⟩) (l2) (.int .i64 0)) :=
  (two_delete h.out.two c n ⟨f, bb, g⟩).mono fun _ _ ho => ⟨ho.1, h.out.step ho.2.1 ho.2.2⟩
theorem dr_delete (h : Hid (DoSt B w0 w d dr b ⟨k, c, n, r, wd, ⟨f, bb, g⟩⟩ l l2)) : Calls Try.prog 36 #[.pointer (some ⟨dr, 0, none⟩), .int .i64 c, .int .i64 n, .agg #[.int .u32 f, .int .u32 bb, .int .u16 g]] w (DoAny B w0 d dr b ⟨k, c, n, r, wd, ⟨f, bb, g⟩⟩ (l) (deL l2 c n ⟨f, bb, g⟩)) :=
  (ref_delete' h.out.two c n ⟨f, bb, g⟩).mono fun _ _ ho => ⟨ho.1, h.out.step ho.2.1 ho.2.2⟩
theorem do_resize (h : Hid (DoSt B w0 w d dr b ⟨k, c, n, r, wd, ⟨f, bb, g⟩⟩ l l2)) : Calls Try.prog 26 #[.pointer (some ⟨d, 0, none⟩), .int .i64 n] w (DoNext B w0 d dr b ⟨k, c, n, r, wd, ⟨f, bb, g⟩⟩ (reL l n) (l2) (.int .i64 (reV n))) :=
  (two_resize h.out.two n).mono fun _ _ ho => ⟨ho.1, h.out.step ho.2.1 ho.2.2⟩
theorem dr_resize (h : Hid (DoSt B w0 w d dr b ⟨k, c, n, r, wd, ⟨f, bb, g⟩⟩ l l2)) : Calls Try.prog 37 #[.pointer (some ⟨dr, 0, none⟩), .int .i64 n] w (DoNext B w0 d dr b ⟨k, c, n, r, wd, ⟨f, bb, g⟩⟩ (l) (reL l2 n) (.int .i64 (reV n))) :=
  (ref_resize' h.out.two n).mono fun _ _ ho => ⟨ho.1, h.out.step ho.2.1 ho.2.2⟩
end

def doL (o : Opr) (l : List Cel) : List Cel :=
  if o.kind = 1 then putL l o.col o.r o.wide o.a else if o.kind = 2 then joiL l o.col o.r else if o.kind = 3 then eraL l o.col o.n o.a
  else if o.kind = 4 then inL l o.col o.n o.a else if o.kind = 5 then deL l o.col o.n o.a else if o.kind = 6 then reL l o.n else l
def DoDone (B : Nat) (w : World) (d dr : Nat) (o : Opr) (l l2 : List Cel) (e : Ending) (w' : World) : Prop := ∃ b, e = .returned (.bool b) ∧ (l = l2 → b = true) ∧ Two B w' d dr (doL o l) (doL o l2) ∧ Fr B ts4 w w'
theorem do_end {B : Nat} {w0 w : World} {d dr b : Nat} {o : Opr} {l l2 l' l2' : List Cel} {q : Bool} (h : Hid (DoSt B w0 w d dr b o l' l2')) (h1 : doL o l = l') (h2 : doL o l2 = l2') (hq : l = l2 → q = true) : DoDone B w0 d dr o l l2 (.returned (.bool q)) w :=
  ⟨q, rfl, hq, by rw [h1, h2]; exact h.out.two, h.out.fr⟩
variable {B : Nat} {w : World} {d dr : Nat} {l l2 : List Cel}
set_option maxRecDepth 100000 in
set_option maxHeartbeats 4000000 in
theorem law_do1 (h : Two B w d dr l l2) (c n r : Int) (hc : -9223372036854775808 ≤ c ∧ c ≤ 9223372036854775807) (wd : Bool) (f bb g : Int) :
    Calls Try.prog 11 #[.pointer (some ⟨d, 0, none⟩), .pointer (some ⟨dr, 0, none⟩), .agg #[.int .i64 1, .int .i64 c, .int .i64 n, .int .i32 r, .bool wd, .int .u32 f, .int .u32 bb, .int .u16 g]] w (DoDone B w d dr ⟨1, c, n, r, wd, ⟨f, bb, g⟩⟩ l l2) := by
  have hS : DoSt B w (w.alloc (.cells #[.int .i64 1, .int .i64 c, .int .i64 n, .int .i32 r, .bool wd, .int .u32 f, .int .u32 bb, .int .u16 g] 36)) d dr w.heap.size ⟨1, c, n, r, wd, ⟨f, bb, g⟩⟩ l l2 := DoSt.start (o := ⟨1, c, n, r, wd, ⟨f, bb, g⟩⟩) h
  replace hS := Lib.hid hS
  replace hc := Lib.hid hc
  clear h
  go_enter Try.func11, Try.ntmps11
  go_upto_region 1 with (fail)
  obtain ⟨b, hb⟩ : ∃ b, b = w.heap.size := ⟨_, rfl⟩
  rw [← hb] at hS
  rw [← hb]
  replace hb := Lib.hid hb
  generalize w.alloc (.cells #[.int .i64 1, .int .i64 c, .int .i64 n, .int .i32 r, .bool wd, .int .u32 f, .int .u32 bb, .int .u16 g] 36) = w1 at hS ⊢
  obtain ⟨c0, c1, c2, c3, c4, c5, c6, c7⟩ := DoSt.cellsH hS
  have hD := DoSt.drawn hS.out
  go_wp2_with fail
  go_region_held3 (fun w' => w'.cell? ⟨b, 0, none⟩ = some (.int .i64 1) ∧ w'.cell? ⟨b, 1, none⟩ = some (.int .i64 c) ∧ w'.cell? ⟨b, 2, none⟩ = some (.int .i64 n) ∧ w'.cell? ⟨b, 3, none⟩ = some (.int .i32 r) ∧ w'.cell? ⟨b, 4, none⟩ = some (.bool wd) ∧ w'.cell? ⟨b, 5, none⟩ = some (.int .u32 f) ∧ w'.cell? ⟨b, 6, none⟩ = some (.int .u32 bb) ∧ w'.cell? ⟨b, 7, none⟩ = some (.int .u16 g))
    (first | exact DoSt.cellsH hS | exact DoSt.cellsH hD | exact DoSt.cellsH hP | exact DoSt.cellsH hR)
    (first
      | (go_at_call 14; (first | (with_reducible refine (do_put hD hc.out).mono ?_) | (with_reducible refine (do_put hR hc.out).mono ?_)); rintro e w2 ⟨rfl, hP⟩)
      | (go_at_call 32; (first | (with_reducible refine (dr_put hD hc.out).mono ?_) | (with_reducible refine (dr_put hP hc.out).mono ?_)); rintro e w2 ⟨rfl, hR⟩))
  all_goals clear c0 c1 c2 c3 c4 c5 c6 c7 hS hD
  all_goals go_wp2
  all_goals go_ret
  all_goals first
    | exact do_end hP rfl rfl (fun e => by subst e; simp)
    | exact do_end hR rfl rfl (fun e => by subst e; simp)
set_option maxRecDepth 100000 in
set_option maxHeartbeats 4000000 in
theorem law_do2 (h : Two B w d dr l l2) (c n r : Int) (hc : -9223372036854775808 ≤ c ∧ c ≤ 9223372036854775807) (wd : Bool) (f bb g : Int) :
    Calls Try.prog 11 #[.pointer (some ⟨d, 0, none⟩), .pointer (some ⟨dr, 0, none⟩), .agg #[.int .i64 2, .int .i64 c, .int .i64 n, .int .i32 r, .bool wd, .int .u32 f, .int .u32 bb, .int .u16 g]] w (DoDone B w d dr ⟨2, c, n, r, wd, ⟨f, bb, g⟩⟩ l l2) := by
  have hS : DoSt B w (w.alloc (.cells #[.int .i64 2, .int .i64 c, .int .i64 n, .int .i32 r, .bool wd, .int .u32 f, .int .u32 bb, .int .u16 g] 36)) d dr w.heap.size ⟨2, c, n, r, wd, ⟨f, bb, g⟩⟩ l l2 := DoSt.start (o := ⟨2, c, n, r, wd, ⟨f, bb, g⟩⟩) h
  replace hS := Lib.hid hS
  replace hc := Lib.hid hc
  clear h
  go_enter Try.func11, Try.ntmps11
  go_upto_region 1 with (fail)
  obtain ⟨b, hb⟩ : ∃ b, b = w.heap.size := ⟨_, rfl⟩
  rw [← hb] at hS
  rw [← hb]
  replace hb := Lib.hid hb
  generalize w.alloc (.cells #[.int .i64 2, .int .i64 c, .int .i64 n, .int .i32 r, .bool wd, .int .u32 f, .int .u32 bb, .int .u16 g] 36) = w1 at hS ⊢
  obtain ⟨c0, c1, c2, c3, c4, c5, c6, c7⟩ := DoSt.cellsH hS
  have hD := DoSt.drawn hS.out
  go_wp2_with fail
  go_region_held3 (fun w' => w'.cell? ⟨b, 0, none⟩ = some (.int .i64 2) ∧ w'.cell? ⟨b, 1, none⟩ = some (.int .i64 c) ∧ w'.cell? ⟨b, 2, none⟩ = some (.int .i64 n) ∧ w'.cell? ⟨b, 3, none⟩ = some (.int .i32 r) ∧ w'.cell? ⟨b, 4, none⟩ = some (.bool wd) ∧ w'.cell? ⟨b, 5, none⟩ = some (.int .u32 f) ∧ w'.cell? ⟨b, 6, none⟩ = some (.int .u32 bb) ∧ w'.cell? ⟨b, 7, none⟩ = some (.int .u16 g))
    (first | exact DoSt.cellsH hS | exact DoSt.cellsH hD | exact DoSt.cellsH hP | exact DoSt.cellsH hR)
    (first
      | (go_at_call 15; (first | (with_reducible refine (do_join hD).mono ?_) | (with_reducible refine (do_join hR).mono ?_)); rintro e w2 ⟨rfl, hP⟩)
      | (go_at_call 33; (first | (with_reducible refine (dr_join hD).mono ?_) | (with_reducible refine (dr_join hP).mono ?_)); rintro e w2 ⟨rfl, hR⟩))
  all_goals clear c0 c1 c2 c3 c4 c5 c6 c7 hS hD
  all_goals go_wp2
  all_goals go_ret
  all_goals first
    | exact do_end hP rfl rfl (fun e => by subst e; simp)
    | exact do_end hR rfl rfl (fun e => by subst e; simp)
set_option maxRecDepth 100000 in
set_option maxHeartbeats 4000000 in
theorem law_do6 (h : Two B w d dr l l2) (c n r : Int) (hc : -9223372036854775808 ≤ c ∧ c ≤ 9223372036854775807) (wd : Bool) (f bb g : Int) :
    Calls Try.prog 11 #[.pointer (some ⟨d, 0, none⟩), .pointer (some ⟨dr, 0, none⟩), .agg #[.int .i64 6, .int .i64 c, .int .i64 n, .int .i32 r, .bool wd, .int .u32 f, .int .u32 bb, .int .u16 g]] w (DoDone B w d dr ⟨6, c, n, r, wd, ⟨f, bb, g⟩⟩ l l2) := by
  have hS : DoSt B w (w.alloc (.cells #[.int .i64 6, .int .i64 c, .int .i64 n, .int .i32 r, .bool wd, .int .u32 f, .int .u32 bb, .int .u16 g] 36)) d dr w.heap.size ⟨6, c, n, r, wd, ⟨f, bb, g⟩⟩ l l2 := DoSt.start (o := ⟨6, c, n, r, wd, ⟨f, bb, g⟩⟩) h
  replace hS := Lib.hid hS
  replace hc := Lib.hid hc
  clear h
  go_enter Try.func11, Try.ntmps11
  go_upto_region 1 with (fail)
  obtain ⟨b, hb⟩ : ∃ b, b = w.heap.size := ⟨_, rfl⟩
  rw [← hb] at hS
  rw [← hb]
  replace hb := Lib.hid hb
  generalize w.alloc (.cells #[.int .i64 6, .int .i64 c, .int .i64 n, .int .i32 r, .bool wd, .int .u32 f, .int .u32 bb, .int .u16 g] 36) = w1 at hS ⊢
  obtain ⟨c0, c1, c2, c3, c4, c5, c6, c7⟩ := DoSt.cellsH hS
  have hD := DoSt.drawn hS.out
  go_wp2_with fail
  go_region_held3 (fun w' => w'.cell? ⟨b, 0, none⟩ = some (.int .i64 6) ∧ w'.cell? ⟨b, 1, none⟩ = some (.int .i64 c) ∧ w'.cell? ⟨b, 2, none⟩ = some (.int .i64 n) ∧ w'.cell? ⟨b, 3, none⟩ = some (.int .i32 r) ∧ w'.cell? ⟨b, 4, none⟩ = some (.bool wd) ∧ w'.cell? ⟨b, 5, none⟩ = some (.int .u32 f) ∧ w'.cell? ⟨b, 6, none⟩ = some (.int .u32 bb) ∧ w'.cell? ⟨b, 7, none⟩ = some (.int .u16 g))
    (first | exact DoSt.cellsH hS | exact DoSt.cellsH hD | exact DoSt.cellsH hP | exact DoSt.cellsH hR)
    (first
      | (go_at_call 26; (first | (with_reducible refine (do_resize hD).mono ?_) | (with_reducible refine (do_resize hR).mono ?_)); rintro e w2 ⟨rfl, hP⟩)
      | (go_at_call 37; (first | (with_reducible refine (dr_resize hD).mono ?_) | (with_reducible refine (dr_resize hP).mono ?_)); rintro e w2 ⟨rfl, hR⟩))
  all_goals clear c0 c1 c2 c3 c4 c5 c6 c7 hS hD
  all_goals go_wp2
  all_goals go_ret
  all_goals first
    | exact do_end hP rfl rfl (fun e => by subst e; simp)
    | exact do_end hR rfl rfl (fun e => by subst e; simp)
set_option maxRecDepth 100000 in
set_option maxHeartbeats 4000000 in
theorem law_do3 (h : Two B w d dr l l2) (c n r : Int) (hc : -9223372036854775808 ≤ c ∧ c ≤ 9223372036854775807) (wd : Bool) (f bb g : Int) :
    Calls Try.prog 11 #[.pointer (some ⟨d, 0, none⟩), .pointer (some ⟨dr, 0, none⟩), .agg #[.int .i64 3, .int .i64 c, .int .i64 n, .int .i32 r, .bool wd, .int .u32 f, .int .u32 bb, .int .u16 g]] w (DoDone B w d dr ⟨3, c, n, r, wd, ⟨f, bb, g⟩⟩ l l2) := by
  have hS : DoSt B w (w.alloc (.cells #[.int .i64 3, .int .i64 c, .int .i64 n, .int .i32 r, .bool wd, .int .u32 f, .int .u32 bb, .int .u16 g] 36)) d dr w.heap.size ⟨3, c, n, r, wd, ⟨f, bb, g⟩⟩ l l2 := DoSt.start (o := ⟨3, c, n, r, wd, ⟨f, bb, g⟩⟩) h
  replace hS := Lib.hid hS
  replace hc := Lib.hid hc
  clear h
  go_enter Try.func11, Try.ntmps11
  go_upto_region 1 with (fail)
  obtain ⟨b, hb⟩ : ∃ b, b = w.heap.size := ⟨_, rfl⟩
  rw [← hb] at hS
  rw [← hb]
  replace hb := Lib.hid hb
  generalize w.alloc (.cells #[.int .i64 3, .int .i64 c, .int .i64 n, .int .i32 r, .bool wd, .int .u32 f, .int .u32 bb, .int .u16 g] 36) = w1 at hS ⊢
  obtain ⟨c0, c1, c2, c3, c4, c5, c6, c7⟩ := DoSt.cellsH hS
  go_wp2_with fail
  refine (dr_erase hS).mono ?_
  rintro e w2 ⟨⟨v2, rfl⟩, hR⟩
  clear c0 c1 c2 c3 c4 c5 c6 c7 hS
  obtain ⟨c0, c1, c2, c3, c4, c5, c6, c7⟩ := DoSt.cellsH hR
  go_wp2_with fail
  refine (do_erase hR).mono ?_
  rintro e w3 ⟨rfl, hP⟩
  clear c0 c1 c2 c3 c4 c5 c6 c7 hR
  go_wp2
  go_ret
  exact do_end hP rfl rfl (fun _ => rfl)
set_option maxRecDepth 100000 in
set_option maxHeartbeats 4000000 in
theorem law_do4 (h : Two B w d dr l l2) (c n r : Int) (hc : -9223372036854775808 ≤ c ∧ c ≤ 9223372036854775807) (wd : Bool) (f bb g : Int) :
    Calls Try.prog 11 #[.pointer (some ⟨d, 0, none⟩), .pointer (some ⟨dr, 0, none⟩), .agg #[.int .i64 4, .int .i64 c, .int .i64 n, .int .i32 r, .bool wd, .int .u32 f, .int .u32 bb, .int .u16 g]] w (DoDone B w d dr ⟨4, c, n, r, wd, ⟨f, bb, g⟩⟩ l l2) := by
  have hS : DoSt B w (w.alloc (.cells #[.int .i64 4, .int .i64 c, .int .i64 n, .int .i32 r, .bool wd, .int .u32 f, .int .u32 bb, .int .u16 g] 36)) d dr w.heap.size ⟨4, c, n, r, wd, ⟨f, bb, g⟩⟩ l l2 := DoSt.start (o := ⟨4, c, n, r, wd, ⟨f, bb, g⟩⟩) h
  replace hS := Lib.hid hS
  replace hc := Lib.hid hc
  clear h
  go_enter Try.func11, Try.ntmps11
  go_upto_region 1 with (fail)
  obtain ⟨b, hb⟩ : ∃ b, b = w.heap.size := ⟨_, rfl⟩
  rw [← hb] at hS
  rw [← hb]
  replace hb := Lib.hid hb
  generalize w.alloc (.cells #[.int .i64 4, .int .i64 c, .int .i64 n, .int .i32 r, .bool wd, .int .u32 f, .int .u32 bb, .int .u16 g] 36) = w1 at hS ⊢
  obtain ⟨c0, c1, c2, c3, c4, c5, c6, c7⟩ := DoSt.cellsH hS
  go_wp2_with fail
  refine (dr_insert hS).mono ?_
  rintro e w2 ⟨⟨v2, rfl⟩, hR⟩
  clear c0 c1 c2 c3 c4 c5 c6 c7 hS
  obtain ⟨c0, c1, c2, c3, c4, c5, c6, c7⟩ := DoSt.cellsH hR
  go_wp2_with fail
  refine (do_insert hR).mono ?_
  rintro e w3 ⟨rfl, hP⟩
  clear c0 c1 c2 c3 c4 c5 c6 c7 hR
  go_wp2
  go_ret
  exact do_end hP rfl rfl (fun _ => rfl)
set_option maxRecDepth 100000 in
set_option maxHeartbeats 4000000 in
theorem law_do5 (h : Two B w d dr l l2) (c n r : Int) (hc : -9223372036854775808 ≤ c ∧ c ≤ 9223372036854775807) (wd : Bool) (f bb g : Int) :
    Calls Try.prog 11 #[.pointer (some ⟨d, 0, none⟩), .pointer (some ⟨dr, 0, none⟩), .agg #[.int .i64 5, .int .i64 c, .int .i64 n, .int .i32 r, .bool wd, .int .u32 f, .int .u32 bb, .int .u16 g]] w (DoDone B w d dr ⟨5, c, n, r, wd, ⟨f, bb, g⟩⟩ l l2) := by
  have hS : DoSt B w (w.alloc (.cells #[.int .i64 5, .int .i64 c, .int .i64 n, .int .i32 r, .bool wd, .int .u32 f, .int .u32 bb, .int .u16 g] 36)) d dr w.heap.size ⟨5, c, n, r, wd, ⟨f, bb, g⟩⟩ l l2 := DoSt.start (o := ⟨5, c, n, r, wd, ⟨f, bb, g⟩⟩) h
  replace hS := Lib.hid hS
  replace hc := Lib.hid hc
  clear h
  go_enter Try.func11, Try.ntmps11
  go_upto_region 1 with (fail)
  obtain ⟨b, hb⟩ : ∃ b, b = w.heap.size := ⟨_, rfl⟩
  rw [← hb] at hS
  rw [← hb]
  replace hb := Lib.hid hb
  generalize w.alloc (.cells #[.int .i64 5, .int .i64 c, .int .i64 n, .int .i32 r, .bool wd, .int .u32 f, .int .u32 bb, .int .u16 g] 36) = w1 at hS ⊢
  obtain ⟨c0, c1, c2, c3, c4, c5, c6, c7⟩ := DoSt.cellsH hS
  go_wp2_with fail
  refine (dr_delete hS).mono ?_
  rintro e w2 ⟨⟨v2, rfl⟩, hR⟩
  clear c0 c1 c2 c3 c4 c5 c6 c7 hS
  obtain ⟨c0, c1, c2, c3, c4, c5, c6, c7⟩ := DoSt.cellsH hR
  go_wp2_with fail
  refine (do_delete hR).mono ?_
  rintro e w3 ⟨rfl, hP⟩
  clear c0 c1 c2 c3 c4 c5 c6 c7 hR
  go_wp2
  go_ret
  exact do_end hP rfl rfl (fun _ => rfl)
set_option maxRecDepth 100000 in
set_option maxHeartbeats 4000000 in
theorem law_do0 (h : Two B w d dr l l2) (c n r : Int) (hc : -9223372036854775808 ≤ c ∧ c ≤ 9223372036854775807) (wd : Bool) (f bb g : Int) (k : Int) (hk : k ≠ 1 ∧ k ≠ 2 ∧ k ≠ 3 ∧ k ≠ 4 ∧ k ≠ 5 ∧ k ≠ 6) :
    Calls Try.prog 11 #[.pointer (some ⟨d, 0, none⟩), .pointer (some ⟨dr, 0, none⟩), .agg #[.int .i64 k, .int .i64 c, .int .i64 n, .int .i32 r, .bool wd, .int .u32 f, .int .u32 bb, .int .u16 g]] w (DoDone B w d dr ⟨k, c, n, r, wd, ⟨f, bb, g⟩⟩ l l2) := by
  have hS : DoSt B w (w.alloc (.cells #[.int .i64 k, .int .i64 c, .int .i64 n, .int .i32 r, .bool wd, .int .u32 f, .int .u32 bb, .int .u16 g] 36)) d dr w.heap.size ⟨k, c, n, r, wd, ⟨f, bb, g⟩⟩ l l2 := DoSt.start (o := ⟨k, c, n, r, wd, ⟨f, bb, g⟩⟩) h
  replace hS := Lib.hid hS
  replace hc := Lib.hid hc
  clear h
  obtain ⟨h1, h2, h3, h4, h5, h6⟩ := hk
  have e1 : (k == 1) = false := beq_eq_false_iff_ne.2 h1
  have e2 : (k == 2) = false := beq_eq_false_iff_ne.2 h2
  have e3 : (k == 3) = false := beq_eq_false_iff_ne.2 h3
  have e4 : (k == 4) = false := beq_eq_false_iff_ne.2 h4
  have e5 : (k == 5) = false := beq_eq_false_iff_ne.2 h5
  have e6 : (k == 6) = false := beq_eq_false_iff_ne.2 h6
  have hdo : ∀ l, doL ⟨k, c, n, r, wd, ⟨f, bb, g⟩⟩ l = l := fun l => by unfold doL; simp only; rw [if_neg h1, if_neg h2, if_neg h3, if_neg h4, if_neg h5, if_neg h6]
  replace hdo := Lib.hid hdo
  go_enter Try.func11, Try.ntmps11
  go_upto_region 1 with (fail)
  obtain ⟨b, hb⟩ : ∃ b, b = w.heap.size := ⟨_, rfl⟩
  rw [← hb] at hS
  rw [← hb]
  replace hb := Lib.hid hb
  generalize w.alloc (.cells #[.int .i64 k, .int .i64 c, .int .i64 n, .int .i32 r, .bool wd, .int .u32 f, .int .u32 bb, .int .u16 g] 36) = w1 at hS ⊢
  obtain ⟨c0, c1, c2, c3, c4, c5, c6, c7⟩ := DoSt.cellsH hS
  go_wp2
  go_ret
  exact do_end hS (hdo.out _) (hdo.out _) (fun _ => rfl)
theorem law_do (h : Two B w d dr l l2) (o : Opr) (ho : o.Ok) : Calls Try.prog 11 #[.pointer (some ⟨d, 0, none⟩), .pointer (some ⟨dr, 0, none⟩), .agg (opV o).toArray] w (DoDone B w d dr o l l2) := by
  obtain ⟨k, c, n, r, wd, ⟨f, bb, g⟩⟩ := o
  have hc : -9223372036854775808 ≤ c ∧ c ≤ 9223372036854775807 := by have := ho.2.1; simp [Lit.wf] at this; exact this
  by_cases h1 : k = 1
  · subst h1; exact law_do1 h c n r hc wd f bb g
  by_cases h2 : k = 2
  · subst h2; exact law_do2 h c n r hc wd f bb g
  by_cases h3 : k = 3
  · subst h3; exact law_do3 h c n r hc wd f bb g
  by_cases h4 : k = 4
  · subst h4; exact law_do4 h c n r hc wd f bb g
  by_cases h5 : k = 5
  · subst h5; exact law_do5 h c n r hc wd f bb g
  by_cases h6 : k = 6
  · subst h6; exact law_do6 h c n r hc wd f bb g
  exact law_do0 h c n r hc wd f bb g k ⟨h1, h2, h3, h4, h5, h6⟩
end Go.Proofs.Ytnnaagkdlmamjaa.Rw
