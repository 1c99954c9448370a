/- The walk of the law VecLerpEnds under the signature of its frame. Conditions: none. -/
import Derived.Test.YtahdnlebokmajaaLwLerpEnds
import Derived.OpenShut
namespace Go.Proofs.Ytahdnlebokmajaa
open Go.RowKit
set_option linter.unusedVariables false
theorem vecLerpEnds_walk (a0_0 : Int) (a0_1 : Int) (a1_0 : Int) (a1_1 : Int) (a2_0 : Int) (a2_1 : Int) (w : World) (wa0_0 : (Lit.int .i64 a0_0).wf = true) (wa0_1 : (Lit.int .i64 a0_1).wf = true) (wa1_0 : (Lit.int .i64 a1_0).wf = true) (wa1_1 : (Lit.int .i64 a1_1).wf = true) (wa2_0 : (Lit.int .i64 a2_0).wf = true) (wa2_1 : (Lit.int .i64 a2_1).wf = true) :
    Calls Try.prog 8 #[.agg #[.int .i64 a0_0, .int .i64 a0_1], .agg #[.int .i64 a1_0, .int .i64 a1_1], .agg #[.int .i64 a2_0, .int .i64 a2_1]] w fun e w' => e = .returned (.bool true) ∧ Below w.heap.size w w' := by
  obtain ⟨h0, h0x⟩ := bounds_i64 wa2_0
  obtain ⟨h1, h1x⟩ := bounds_i64 wa2_1
  exact vecLerpEnds_w a0_0 a0_1 a1_0 a1_1 a2_0 a2_1 h0 h0x h1 h1x w
end Go.Proofs.Ytahdnlebokmajaa
