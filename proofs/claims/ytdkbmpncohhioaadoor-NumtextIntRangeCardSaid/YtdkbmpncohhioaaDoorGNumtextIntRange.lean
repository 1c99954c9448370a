/- The walk of the law NumtextIntRange under the signature of its frame. Conditions: none. -/
import Derived.Test.YtdkbmpncohhioaaDoorNt6
import Derived.OpenShut
namespace Go.Proofs.YtdkbmpncohhioaaDoor
open Go.RowKit
set_option linter.unusedVariables false
theorem numtextIntRange_walk (a0 : ByteArray) (a1 : Int) (a2 : Int) (w : World) (wa0 : a0.size ≤ maxLen) (wa1 : (Lit.int .i64 a1).wf = true) (wa2 : (Lit.int .i64 a2).wf = true) (hN : Tb w) (hM : Mx w) :
    Calls Tryd.prog 6 #[.string a0, .int .i64 a1, .int .i64 a2] w fun e w' => e = .returned (.bool true) ∧ Below w.heap.size w w' := by
  exact nir_w a0 a1 a2 w (Nat.le_trans wa0 (by unfold maxLen; omega)) hN hM
end Go.Proofs.YtdkbmpncohhioaaDoor
