/- The walk of the law VecLerp under the signature of its frame. Conditions: none. -/
import Derived.Test.YthofacdiajhjmaaLv
import Derived.OpenShut
namespace Go.Proofs.Ythofacdiajhjmaa
open Go.RowKit
set_option linter.unusedVariables false
theorem vecLerp_walk (a0_0 : Int) (a0_1 : Int) (a1_0 : Int) (a1_1 : Int) (a2_0 : Int) (a2_1 : Int) (w : World) (wa0_0 : (Lit.int .i64 a0_0).wf = true) (wa0_1 : (Lit.int .i64 a0_1).wf = true) (wa1_0 : (Lit.int .i64 a1_0).wf = true) (wa1_1 : (Lit.int .i64 a1_1).wf = true) (wa2_0 : (Lit.int .i64 a2_0).wf = true) (wa2_1 : (Lit.int .i64 a2_1).wf = true) :
    Calls Try.prog 4 #[.agg #[.int .i64 a0_0, .int .i64 a0_1], .agg #[.int .i64 a1_0, .int .i64 a1_1], .agg #[.int .i64 a2_0, .int .i64 a2_1]] w fun e w' => e = .returned (.bool true) ∧ Below w.heap.size w w' := by
  exact vecLerp_w a0_0 a0_1 a1_0 a1_1 a2_0 a2_1 w
end Go.Proofs.Ythofacdiajhjmaa
