/-
  lines: LinesNone as the row's frame asks it.
-/
import Derived.Test.YtleooelhnnfjbaaLNone
import Derived.Test.YtleooelhnnfjbaaLArg
namespace Go.Proofs.Ytleooelhnnfjbaa.Lns
open Go Go.RowKit Go.Proofs.Ytleooelhnnfjbaa.Com Go.Proofs.Ytleooelhnnfjbaa.Rw
theorem lawNone8 (n : Int) (_ : (Lit.int .i64 n).wf = true) (a : At) (_ : AtOk a) (w : World) : Calls Try.prog 5 #[.int .i64 n, .agg (attV a).toArray] w fun e w' => e = .returned (.bool true) ∧ Below w.heap.size w w' := lawNone n a w
end Go.Proofs.Ytleooelhnnfjbaa.Lns
