/-
  parser: the states' steps as a table.
-/
import Derived.Test.YtgkpcjhnphfkgaaQTop
import Derived.Laws.EntriesVeiled
namespace Go.Proofs.Ytgkpcjhnphfkgaa.Prs
open Go Go.RowKit Go.Proofs.Ytgkpcjhnphfkgaa.Com Go.Proofs.Ytgkpcjhnphfkgaa.Par

def stepsV : Value := .agg #[.func (.func 24) #[] #[], .func (.func 25) #[] #[], .func (.func 26) #[] #[], .func (.func 27) #[] #[], .func (.func 28) #[] #[], .func (.func 29) #[] #[], .func (.func 30) #[] #[], .func (.func 27) #[] #[], .func (.func 28) #[] #[], .func (.func 29) #[] #[], .func (.func 31) #[] #[], .func (.func 31) #[] #[], .func (.func 32) #[] #[], .func (.func 31) #[] #[]]
set_option maxRecDepth 100000 in
theorem steps_any (w : World) :
    Calls Try.prog 17 #[] w fun e w' => e = .returned stepsV ∧ Below w.heap.size w w' := by
  go_enter Try.func17, Try.ntmps17
  go_wp2
  exact bodyPost_ret (v := stepsV) (by simp [results, Try.results17, go_sem, stepsV]) rfl ⟨rfl, below_new _ _⟩
/-- In the state s the step is function n. -/
def StepIs (s : Int) (n : Nat) : Prop := ∀ w, (Instr.index 47 stepsV (.int .u8 s)).run Try.prog w = .ok (.func (.func n) #[] #[]) w
theorem stepAt0 : StepIs 0 24 := fun _ => by kernel_rfl
theorem stepAt1 : StepIs 1 25 := fun _ => by kernel_rfl
theorem stepAt2 : StepIs 2 26 := fun _ => by kernel_rfl
theorem stepAt3 : StepIs 3 27 := fun _ => by kernel_rfl
theorem stepAt4 : StepIs 4 28 := fun _ => by kernel_rfl
theorem stepAt5 : StepIs 5 29 := fun _ => by kernel_rfl
theorem stepAt6 : StepIs 6 30 := fun _ => by kernel_rfl
theorem stepAt7 : StepIs 7 27 := fun _ => by kernel_rfl
theorem stepAt8 : StepIs 8 28 := fun _ => by kernel_rfl
theorem stepAt9 : StepIs 9 29 := fun _ => by kernel_rfl
theorem stepAt10 : StepIs 10 31 := fun _ => by kernel_rfl
theorem stepAt11 : StepIs 11 31 := fun _ => by kernel_rfl
theorem stepAt12 : StepIs 12 32 := fun _ => by kernel_rfl
theorem stepAt13 : StepIs 13 31 := fun _ => by kernel_rfl

/-- What the walk knows of a rune from 0x20 to 0x7e. -/
structure Mid (r : Int) : Prop where
  a : ¬ r < 0
  b : ¬ 1114111 < r
  c : (r == 24) = false
  d : (r == 26) = false
  e : (r == 27) = false
  f : ¬ r < 32
  g : r < 127
theorem mid_of {r : Int} (h0 : 32 ≤ r) (h1 : r < 127) : Mid r := ⟨by omega, by omega, by simp; omega, by simp; omega, by simp; omega, by omega, h1⟩

end Go.Proofs.Ytgkpcjhnphfkgaa.Prs
