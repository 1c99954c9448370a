/- The walk of the law CompositeFactors under the signature of its frame. Conditions: none. -/
import Derived.Test.YtgaabdidddglhaaLwFac
import Derived.OpenShut
namespace Go.Proofs.Ytgaabdidddglhaa
open Go.RowKit
set_option linter.unusedVariables false
theorem compositeFactors_walk (a0 : Int) (a1_0 : Int) (a1_1 : Int) (w : World) (wa0 : (Lit.int .i64 a0).wf = true) (wa1_0 : (Lit.int .u8 a1_0).wf = true) (wa1_1 : (Lit.int .u8 a1_1).wf = true) :
    Calls Try.prog 3 #[.int .i64 a0, .agg #[.int .u8 a1_0, .int .u8 a1_1]] w fun e w' => e = .returned (.bool true) ∧ Below w.heap.size w w' := by
  obtain ⟨p0, q0⟩ := bounds_u8 wa1_0
  obtain ⟨p1, q1⟩ := bounds_u8 wa1_1
  exact cfactors_w a0 a1_0 a1_1 p0 q0 p1 q1 wa0 w
end Go.Proofs.Ytgaabdidddglhaa
