/- The walk of the law BlendModeNames under the signature of its frame. Conditions: none. -/
import Derived.Test.YtdhajiaepaamgaaDoorLwNames
import Derived.OpenShut
namespace Go.Proofs.YtdhajiaepaamgaaDoor
open Go.RowKit
set_option linter.unusedVariables false
theorem blendModeNames_walk (a0 : Int) (a1 : ByteArray) (w : World) (wa0 : (Lit.int .i64 a0).wf = true) (wa1 : a1.size ≤ maxLen) (hN : Nm w) :
    Calls Tryd.prog 3 #[.int .i64 a0, .string a1] w fun e w' => e = .returned (.bool true) ∧ Below w.heap.size w w' := by
  exact bnames_w a0 a1 w hN
end Go.Proofs.YtdhajiaepaamgaaDoor
