/- The walk of the law BlendGray under the signature of its frame. Conditions: none. -/
import Derived.Test.YtdhajiaepaamgaaDoorLwGray
import Derived.OpenShut
namespace Go.Proofs.YtdhajiaepaamgaaDoor
open Go.RowKit
set_option linter.unusedVariables false
theorem blendGray_walk (a0 : Int) (a1_0 : Int) (a1_1 : Int) (a1_2 : Int) (a1_3 : Int) (w : World) (wa0 : (Lit.int .u8 a0).wf = true) (wa1_0 : (Lit.int .u8 a1_0).wf = true) (wa1_1 : (Lit.int .u8 a1_1).wf = true) (wa1_2 : (Lit.int .u8 a1_2).wf = true) (wa1_3 : (Lit.int .u8 a1_3).wf = true) (hN : Nm w) :
    Calls Tryd.prog 12 #[.int .u8 a0, .agg #[.int .u8 a1_0, .int .u8 a1_1, .int .u8 a1_2, .int .u8 a1_3]] w fun e w' => e = .returned (.bool true) ∧ Below w.heap.size w w' := by
  obtain ⟨pk, qk⟩ := bounds_u8 wa0
  obtain ⟨pa1_0, qa1_0⟩ := bounds_u8 wa1_0
  obtain ⟨pa1_1, qa1_1⟩ := bounds_u8 wa1_1
  obtain ⟨pa1_2, qa1_2⟩ := bounds_u8 wa1_2
  obtain ⟨pa1_3, qa1_3⟩ := bounds_u8 wa1_3
  exact bgray_w a0 a1_0 a1_1 a1_2 a1_3 pk qk pa1_0 qa1_0 pa1_1 qa1_1 pa1_2 qa1_2 pa1_3 qa1_3 w hN
end Go.Proofs.YtdhajiaepaamgaaDoor
