/- The walk of the law GradientSpread under the signature of its frame. Conditions: none. -/
import Derived.Test.YtcklplodbdbciaaLwSpread
import Derived.OpenShut
namespace Go.Proofs.Ytcklplodbdbciaa
open Go.RowKit
set_option linter.unusedVariables false
theorem gradientSpread_walk (a0 : Int) (a1 : Int) (w : World) (wa0 : (Lit.int .i64 a0).wf = true) (wa1 : (Lit.int .i64 a1).wf = true) :
    Calls Try.prog 3 #[.int .i64 a0, .int .i64 a1] w fun e w' => e = .returned (.bool true) ∧ Below w.heap.size w w' := by
  obtain ⟨p, q⟩ := bounds_i64 wa0
  exact gradSpread_w a0 a1 p q w
end Go.Proofs.Ytcklplodbdbciaa
