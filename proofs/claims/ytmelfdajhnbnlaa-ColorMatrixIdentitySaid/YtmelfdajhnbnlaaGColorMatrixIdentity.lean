/- The walk of the law ColorMatrixIdentity under the signature of its frame. Conditions: none. -/
import Derived.Test.YtmelfdajhnbnlaaAmi
import Derived.OpenShut
namespace Go.Proofs.Ytmelfdajhnbnlaa
open Go.RowKit
set_option linter.unusedVariables false
theorem colorMatrixIdentity_walk (a0_0 : Int) (a0_1 : Int) (a0_2 : Int) (a0_3 : Int) (a1 : Int) (w : World) (wa0_0 : (Lit.int .u8 a0_0).wf = true) (wa0_1 : (Lit.int .u8 a0_1).wf = true) (wa0_2 : (Lit.int .u8 a0_2).wf = true) (wa0_3 : (Lit.int .u8 a0_3).wf = true) (wa1 : (Lit.int .u8 a1).wf = true) :
    Calls Try.prog 3 #[.agg #[.int .u8 a0_0, .int .u8 a0_1, .int .u8 a0_2, .int .u8 a0_3], .int .u8 a1] w fun e w' => e = .returned (.bool true) ∧ Below w.heap.size w w' := by
  have wf : ∀ z : Int, (Lit.int .u8 z).wf = true → 0 ≤ z ∧ z ≤ 255 := fun z h => by simpa [Lit.wf, IntKind.min, IntKind.max, IntKind.signed, IntKind.bits] using h
  exact colorMatrixIdentity_w a0_0 a0_1 a0_2 a0_3 a1 (wf _ wa0_0).1 (wf _ wa0_0).2 (wf _ wa0_1).1 (wf _ wa0_1).2 (wf _ wa0_2).1 (wf _ wa0_2).2 (wf _ wa0_3).1 (wf _ wa0_3).2 (wf _ wa1).1 (wf _ wa1).2 w
end Go.Proofs.Ytmelfdajhnbnlaa
