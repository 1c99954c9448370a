
/- The walk of the law RationalFromInts under the signature of its frame. Conditions: none. -/
import Derived.Test.YtcofiekfhnfjpaaSF
import Derived.OpenShut
namespace Go.Proofs.Ytcofiekfhnfjpaa
open Go.RowKit
set_option linter.unusedVariables false
theorem rationalFromInts_walk (a0 : Int) (a1 : Int) (w : World) (wa0 : (Lit.int .i64 a0).wf = true) (wa1 : (Lit.int .i64 a1).wf = true) :
    Calls Try.prog 4 #[.int .i64 a0, .int .i64 a1] w fun e w' => e = .returned (.bool true) ∧ Below w.heap.size w w' := by
  have b0 := bounds_i64 wa0
  have b1 := bounds_i64 wa1
  exact lfi_w a0 a1 w b0.1 b0.2 b1.1 b1.2
end Go.Proofs.Ytcofiekfhnfjpaa
