/- The walk of the law GradientInterpolation under the signature of its frame. Conditions: none. -/
import Derived.Test.YtcklplodbdbciaaLwInterp
import Derived.OpenShut
namespace Go.Proofs.Ytcklplodbdbciaa
open Go.RowKit
set_option linter.unusedVariables false
theorem gradientInterpolation_walk (a0_0 : Int) (a0_1 : Int) (a0_2 : Int) (a0_3 : Int) (a0_4 : Int) (a1_0 : Int) (a1_1 : Int) (a1_2 : Int) (a1_3 : Int) (a1_4 : Int) (a2 : Int) (w : World) (wa0_0 : (Lit.int .i64 a0_0).wf = true) (wa0_1 : (Lit.int .u8 a0_1).wf = true) (wa0_2 : (Lit.int .u8 a0_2).wf = true) (wa0_3 : (Lit.int .u8 a0_3).wf = true) (wa0_4 : (Lit.int .u8 a0_4).wf = true) (wa1_0 : (Lit.int .i64 a1_0).wf = true) (wa1_1 : (Lit.int .u8 a1_1).wf = true) (wa1_2 : (Lit.int .u8 a1_2).wf = true) (wa1_3 : (Lit.int .u8 a1_3).wf = true) (wa1_4 : (Lit.int .u8 a1_4).wf = true) (wa2 : (Lit.int .i64 a2).wf = true) :
    Calls Try.prog 4 #[.agg #[.int .i64 a0_0, .int .u8 a0_1, .int .u8 a0_2, .int .u8 a0_3, .int .u8 a0_4], .agg #[.int .i64 a1_0, .int .u8 a1_1, .int .u8 a1_2, .int .u8 a1_3, .int .u8 a1_4], .int .i64 a2] w fun e w' => e = .returned (.bool true) ∧ Below w.heap.size w w' := by
  obtain ⟨pa0_1, qa0_1⟩ := bounds_u8 wa0_1
  obtain ⟨pa0_2, qa0_2⟩ := bounds_u8 wa0_2
  obtain ⟨pa0_3, qa0_3⟩ := bounds_u8 wa0_3
  obtain ⟨pa0_4, qa0_4⟩ := bounds_u8 wa0_4
  obtain ⟨pa1_1, qa1_1⟩ := bounds_u8 wa1_1
  obtain ⟨pa1_2, qa1_2⟩ := bounds_u8 wa1_2
  obtain ⟨pa1_3, qa1_3⟩ := bounds_u8 wa1_3
  obtain ⟨pa1_4, qa1_4⟩ := bounds_u8 wa1_4
  exact gradInterp_w a0_0 a0_1 a0_2 a0_3 a0_4 a1_0 a1_1 a1_2 a1_3 a1_4 a2 pa0_1 qa0_1 pa0_2 qa0_2 pa0_3 qa0_3 pa0_4 qa0_4 pa1_1 qa1_1 pa1_2 qa1_2 pa1_3 qa1_3 pa1_4 qa1_4 w
end Go.Proofs.Ytcklplodbdbciaa
