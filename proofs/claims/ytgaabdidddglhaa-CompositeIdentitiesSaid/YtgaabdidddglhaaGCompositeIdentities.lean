/- The walk of the law CompositeIdentities under the signature of its frame. Conditions: none. -/
import Derived.Test.YtgaabdidddglhaaLwId
import Derived.OpenShut
namespace Go.Proofs.Ytgaabdidddglhaa
open Go.RowKit
set_option linter.unusedVariables false
theorem compositeIdentities_walk (a0_0 : Int) (a0_1 : Int) (a0_2 : Int) (a0_3 : Int) (a1_0 : Int) (a1_1 : Int) (a1_2 : Int) (a1_3 : Int) (w : World) (wa0_0 : (Lit.int .u8 a0_0).wf = true) (wa0_1 : (Lit.int .u8 a0_1).wf = true) (wa0_2 : (Lit.int .u8 a0_2).wf = true) (wa0_3 : (Lit.int .u8 a0_3).wf = true) (wa1_0 : (Lit.int .u8 a1_0).wf = true) (wa1_1 : (Lit.int .u8 a1_1).wf = true) (wa1_2 : (Lit.int .u8 a1_2).wf = true) (wa1_3 : (Lit.int .u8 a1_3).wf = true) :
    Calls Try.prog 8 #[.agg #[.int .u8 a0_0, .int .u8 a0_1, .int .u8 a0_2, .int .u8 a0_3], .agg #[.int .u8 a1_0, .int .u8 a1_1, .int .u8 a1_2, .int .u8 a1_3]] w fun e w' => e = .returned (.bool true) ∧ Below w.heap.size w w' := by
  obtain ⟨pa0_0, qa0_0⟩ := bounds_u8 wa0_0
  obtain ⟨pa0_1, qa0_1⟩ := bounds_u8 wa0_1
  obtain ⟨pa0_2, qa0_2⟩ := bounds_u8 wa0_2
  obtain ⟨pa0_3, qa0_3⟩ := bounds_u8 wa0_3
  obtain ⟨pa1_0, qa1_0⟩ := bounds_u8 wa1_0
  obtain ⟨pa1_1, qa1_1⟩ := bounds_u8 wa1_1
  obtain ⟨pa1_2, qa1_2⟩ := bounds_u8 wa1_2
  obtain ⟨pa1_3, qa1_3⟩ := bounds_u8 wa1_3
  exact cident_w a0_0 a0_1 a0_2 a0_3 a1_0 a1_1 a1_2 a1_3 pa0_0 qa0_0 pa0_1 qa0_1 pa0_2 qa0_2 pa0_3 qa0_3 pa1_0 qa1_0 pa1_1 qa1_1 pa1_2 qa1_2 pa1_3 qa1_3 w
end Go.Proofs.Ytgaabdidddglhaa
