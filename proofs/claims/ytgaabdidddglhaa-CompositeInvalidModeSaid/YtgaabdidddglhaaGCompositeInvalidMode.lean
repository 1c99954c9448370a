/- The walk of the law CompositeInvalidMode under the signature of its frame. Conditions: none. -/
import Derived.Test.YtgaabdidddglhaaLwInv
import Derived.OpenShut
namespace Go.Proofs.Ytgaabdidddglhaa
open Go.RowKit
set_option linter.unusedVariables false
theorem compositeInvalidMode_walk (a0 : Int) (a1_0 : Int) (a1_1 : Int) (a1_2 : Int) (a1_3 : Int) (a2_0 : Int) (a2_1 : Int) (a2_2 : Int) (a2_3 : Int) (w : World) (wa0 : (Lit.int .i64 a0).wf = true) (wa1_0 : (Lit.int .u8 a1_0).wf = true) (wa1_1 : (Lit.int .u8 a1_1).wf = true) (wa1_2 : (Lit.int .u8 a1_2).wf = true) (wa1_3 : (Lit.int .u8 a1_3).wf = true) (wa2_0 : (Lit.int .u8 a2_0).wf = true) (wa2_1 : (Lit.int .u8 a2_1).wf = true) (wa2_2 : (Lit.int .u8 a2_2).wf = true) (wa2_3 : (Lit.int .u8 a2_3).wf = true) :
    Calls Try.prog 9 #[.int .i64 a0, .agg #[.int .u8 a1_0, .int .u8 a1_1, .int .u8 a1_2, .int .u8 a1_3], .agg #[.int .u8 a2_0, .int .u8 a2_1, .int .u8 a2_2, .int .u8 a2_3]] w fun e w' => e = .returned (.bool true) ∧ Below w.heap.size w w' := by
  obtain ⟨pa1_0, qa1_0⟩ := bounds_u8 wa1_0
  obtain ⟨pa1_1, qa1_1⟩ := bounds_u8 wa1_1
  obtain ⟨pa1_2, qa1_2⟩ := bounds_u8 wa1_2
  obtain ⟨pa1_3, qa1_3⟩ := bounds_u8 wa1_3
  obtain ⟨pa2_0, qa2_0⟩ := bounds_u8 wa2_0
  obtain ⟨pa2_1, qa2_1⟩ := bounds_u8 wa2_1
  obtain ⟨pa2_2, qa2_2⟩ := bounds_u8 wa2_2
  obtain ⟨pa2_3, qa2_3⟩ := bounds_u8 wa2_3
  exact cinv_w a0 a1_0 a1_1 a1_2 a1_3 a2_0 a2_1 a2_2 a2_3 pa1_0 qa1_0 pa1_1 qa1_1 pa1_2 qa1_2 pa1_3 qa1_3 pa2_0 qa2_0 pa2_1 qa2_1 pa2_2 qa2_2 pa2_3 qa2_3 w
end Go.Proofs.Ytgaabdidddglhaa
