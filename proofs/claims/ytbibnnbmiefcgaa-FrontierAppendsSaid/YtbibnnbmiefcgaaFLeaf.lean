/-
  frontier: the frontier in memory; what takes each kind of event.
-/
import Derived.Test.YtbibnnbmiefcgaaChecked
import Derived.Test.YtbibnnbmiefcgaaFMath
import Derived.WalkLawsBesides
import Derived.LoopTactic
import Derived.IntWalk
import Derived.Outline
import Derived.Deep.QuietTactic
import Derived.BigQuiet
namespace Go.Proofs.Ytbibnnbmiefcgaa.Fro
open Go Go.RowKit Go.Proofs.Ytbibnnbmiefcgaa.Com

/-- A frontier's block. -/
def FB (w : World) (d : Nat) (S : Fr) : Prop := Block w d 33 #[.bool S.off, .int .u8 S.la]
section
variable {w w' : World} {d : Nat} {S : Fr}
theorem FB.coff (h : FB w d S) : w.cell? ⟨d, 0, none⟩ = some (.bool S.off) := Block.cell h 0 rfl
theorem FB.cla (h : FB w d S) : w.cell? ⟨d, 1, none⟩ = some (.int .u8 S.la) := Block.cell h 1 rfl
theorem FB.free (h : FB w d S) (k : Nat) : w.frozen? ⟨d, k, none⟩ = false := Block.free h k
theorem FB.lt (h : FB w d S) : d < w.heap.size := Block.lt h
theorem FB.only {L : List Nat} (h : FB w d S) (ho : Only L w w') (hn : d ∉ L) : FB w' d S := Block.only h ho hn
theorem FB.below (h : FB w d S) (hb : Below w.heap.size w w') : FB w' d S := h.only (Only.of_below hb []) (by simp)
theorem FB.drewN (h : FB w d S) (m : Nat) : FB (w.drewN m) d S := h.only (Only.drewN [] w m) (by simp)
theorem FB.setOff (h : FB w d S) (b : Bool) : FB (w.setCell ⟨d, 0, none⟩ (.bool b)) d ⟨b, S.la⟩ := Block.set h 0 (.bool b)
theorem FB.setLa (h : FB w d S) (k : Int) : FB (w.setCell ⟨d, 1, none⟩ (.int .u8 k)) d ⟨S.off, k⟩ := Block.set h 1 (.int .u8 k)
end
/-- What a call that turns the frontier leaves. -/
def Leaves (w : World) (d : Nat) (k : Int) (T : Fr) (e : Ending) (w' : World) : Prop := e = .returned (.int .u8 k) ∧ FB w' d T ∧ Only [d] w w'


theorem nothing_any {w : World} (v : Value) (e : Ev) (echo : Bool) :
    Calls Try.prog 12 #[v, evV e, .bool echo] w fun x w' => x = .returned (.int .u8 0) ∧ Below w.heap.size w w' := by
  go_enter Try.func12, Try.ntmps12
  go_wp2
  go_ret
  exact ⟨rfl, below_new _ _⟩

theorem other_any {w : World} {d : Nat} {S : Fr} (h : FB w d S) (e : Ev) (echo : Bool) :
    Calls Try.prog 16 #[.pointer (some ⟨d, 0, none⟩), evV e, .bool echo] w (Leaves w d 0 ⟨true, S.la⟩) := by
  obtain ⟨k, ix, ln, cl, wd, r, bl, la, fr, wr⟩ := e
  have hb := (h.below (below_new w (.cells #[.int .u8 k, .int .u64 ix, .int .i64 ln, .int .i64 cl, .bool wd, .int .i32 r, .bool bl, .bool la, .bool fr, .bool wr] 29)))
  have h0 := hb.coff
  have h1 := hb.cla
  have hz := hb.free
  have hs := Lib.hid (hb.setOff true)
  have ho := Lib.hid ((Only.alloc [d] w (.cells #[.int .u8 k, .int .u64 ix, .int .i64 ln, .int .i64 cl, .bool wd, .int .i32 r, .bool bl, .bool la, .bool fr, .bool wr] 29)).trans (Only.setCell _ ⟨d, 0, none⟩ (.bool true)))
  clear h hb
  go_enter Try.func16, Try.ntmps16
  go_wp2
  go_ret
  exact ⟨rfl, hs.out, ho.out⟩

theorem reset_any {w : World} {d : Nat} {S : Fr} (h : FB w d S) (e : Ev) (echo : Bool) :
    Calls Try.prog 17 #[.pointer (some ⟨d, 0, none⟩), evV e, .bool echo] w (Leaves w d 0 Fr.new) := by
  obtain ⟨k, ix, ln, cl, wd, r, bl, la, fr, wr⟩ := e
  have hb := (h.below (below_new w (.cells #[.int .u8 k, .int .u64 ix, .int .i64 ln, .int .i64 cl, .bool wd, .int .i32 r, .bool bl, .bool la, .bool fr, .bool wr] 29)))
  have h0 := hb.coff
  have h1 := hb.cla
  have hz := hb.free
  have hs := Lib.hid ((hb.setOff false).setLa 0)
  have ho := Lib.hid (((Only.alloc [d] w (.cells #[.int .u8 k, .int .u64 ix, .int .i64 ln, .int .i64 cl, .bool wd, .int .i32 r, .bool bl, .bool la, .bool fr, .bool wr] 29)).trans (Only.setCell _ ⟨d, 0, none⟩ (.bool false))).trans (Only.setCell _ ⟨d, 1, none⟩ (.int .u8 0)))
  clear h hb
  go_enter Try.func17, Try.ntmps17
  go_wp2
  go_ret
  exact ⟨rfl, hs.out, ho.out⟩

theorem straight_any {w : World} {d : Nat} {S : Fr} (h : FB w d S) (e : Ev) (echo : Bool) :
    Calls Try.prog 15 #[.pointer (some ⟨d, 0, none⟩), evV e, .bool echo] w (Leaves w d 0 ⟨S.off && !e.fr, S.la⟩) := by
  obtain ⟨k, ix, ln, cl, wd, r, bl, la, fr, wr⟩ := e
  have hb := (h.below (below_new w (.cells #[.int .u8 k, .int .u64 ix, .int .i64 ln, .int .i64 cl, .bool wd, .int .i32 r, .bool bl, .bool la, .bool fr, .bool wr] 29)))
  have h0 := hb.coff
  have h1 := hb.cla
  have hz := hb.free
  have hs := Lib.hid (hb.setOff (S.off && !fr))
  have ho := Lib.hid ((Only.alloc [d] w (.cells #[.int .u8 k, .int .u64 ix, .int .i64 ln, .int .i64 cl, .bool wd, .int .i32 r, .bool bl, .bool la, .bool fr, .bool wr] 29)).trans (Only.setCell _ ⟨d, 0, none⟩ (.bool (S.off && !fr))))
  clear h hb
  obtain ⟨off, lst⟩ := S
  dsimp only at *
  cases off
  all_goals
    go_enter Try.func15, Try.ntmps15
    go_wp2
    go_ret
    exact ⟨rfl, hs.out, ho.out⟩

theorem join_any {w : World} {d : Nat} {S : Fr} (h : FB w d S) (e : Ev) (echo : Bool) :
    Calls Try.prog 14 #[.pointer (some ⟨d, 0, none⟩), evV e, .bool echo] w (Leaves w d (if joinB S e = true then S.la else 3) S) := by
  obtain ⟨k, ix, ln, cl, wd, r, bl, la, fr, wr⟩ := e
  have hb := (h.below (below_new w (.cells #[.int .u8 k, .int .u64 ix, .int .i64 ln, .int .i64 cl, .bool wd, .int .i32 r, .bool bl, .bool la, .bool fr, .bool wr] 29)))
  have h0 := hb.coff
  have h1 := hb.cla
  have hz := hb.free
  have ho2 := Lib.hid (Only.alloc [d] w (.cells #[.int .u8 k, .int .u64 ix, .int .i64 ln, .int .i64 cl, .bool wd, .int .i32 r, .bool bl, .bool la, .bool fr, .bool wr] 29))
  replace hb := Lib.hid hb
  clear h
  obtain ⟨off, lst⟩ := S
  unfold joinB
  dsimp only at *
  by_cases hl : lst = 0
  · subst hl
    cases la
    all_goals
      go_enter Try.func14, Try.ntmps14
      go_wp2
      go_ret
      exact ⟨rfl, hb.out, ho2.out⟩
  · have hne : (lst != 0) = true := by simpa using hl
    cases la
    · go_enter Try.func14, Try.ntmps14
      go_wp2
      go_ret
      exact ⟨rfl, hb.out, ho2.out⟩
    · go_enter Try.func14, Try.ntmps14
      go_wp2
      go_ret
      exact ⟨rfl, hb.out, ho2.out⟩

theorem print_any {w : World} {d : Nat} {S : Fr} (h : FB w d S) (e : Ev) (echo : Bool) :
    Calls Try.prog 13 #[.pointer (some ⟨d, 0, none⟩), evV e, .bool echo] w (Leaves w d (printK S e echo) ⟨S.off || !e.bl, printK S e echo⟩) := by
  obtain ⟨k, ix, ln, cl, wd, r, bl, la, fr, wr⟩ := e
  have hb := (h.below (below_new w (.cells #[.int .u8 k, .int .u64 ix, .int .i64 ln, .int .i64 cl, .bool wd, .int .i32 r, .bool bl, .bool la, .bool fr, .bool wr] 29)))
  have h0 := hb.coff
  have h1 := hb.cla
  have hz := hb.free
  have hs := Lib.hid ((hb.setOff (S.off || !bl)).setLa (printK S ⟨k, ix, ln, cl, wd, r, bl, la, fr, wr⟩ echo))
  have ho := Lib.hid (((Only.alloc [d] w (.cells #[.int .u8 k, .int .u64 ix, .int .i64 ln, .int .i64 cl, .bool wd, .int .i32 r, .bool bl, .bool la, .bool fr, .bool wr] 29)).trans (Only.setCell _ ⟨d, 0, none⟩ (.bool (S.off || !bl)))).trans (Only.setCell _ ⟨d, 1, none⟩ (.int .u8 (printK S ⟨k, ix, ln, cl, wd, r, bl, la, fr, wr⟩ echo))))
  clear h hb
  obtain ⟨off, lst⟩ := S
  unfold printK at *
  dsimp only at *
  cases echo <;> cases off <;> cases bl
  all_goals
    go_enter Try.func13, Try.ntmps13
    go_wp2
    go_ret
    exact ⟨rfl, hs.out, ho.out⟩
end Go.Proofs.Ytbibnnbmiefcgaa.Fro
