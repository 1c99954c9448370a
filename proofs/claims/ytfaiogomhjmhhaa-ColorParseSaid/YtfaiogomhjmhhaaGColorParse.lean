/- The walk of the law ColorParse under the signature of its frame. Conditions: none. -/
import Derived.Test.YtfaiogomhjmhhaaLColorParse
import Derived.OpenShut
namespace Go.Proofs.Ytfaiogomhjmhhaa
open Go.RowKit
set_option linter.unusedVariables false
theorem colorParse_walk (a0 : ByteArray) (w : World) (wa0 : a0.size ≤ 140737488351232) :
    Calls Try.prog 5 #[.string a0] w fun e w' => e = .returned (.bool true) ∧ Below w.heap.size w w' := by
  exact colorParse_w a0 (by omega) w
end Go.Proofs.Ytfaiogomhjmhhaa
