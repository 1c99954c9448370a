/- The walk of the law RectPackSquares under the signature of its frame. Conditions: none. -/
import Derived.Test.YtciaidlkhlgflaaLr
import Derived.OpenShut
namespace Go.Proofs.Ytciaidlkhlgflaa
open Go.RowKit
set_option linter.unusedVariables false
theorem rectPackSquares_walk (a0_0 : Int) (a0_1 : Int) (a1 : Int) (a2 : Int) (w : World) (wa0_0 : (Lit.int .u8 a0_0).wf = true) (wa0_1 : (Lit.int .u8 a0_1).wf = true) (wa1 : (Lit.int .u8 a1).wf = true) (wa2 : (Lit.int .u8 a2).wf = true) :
    Calls Try.prog 9 #[.agg #[.int .u8 a0_0, .int .u8 a0_1], .int .u8 a1, .int .u8 a2] w fun e w' => e = .returned (.bool true) ∧ Below w.heap.size w w' := by
  obtain ⟨x0, rfl, h0⟩ := u8_nat wa0_0
  obtain ⟨x1, rfl, h1⟩ := u8_nat wa0_1
  obtain ⟨x2, rfl, h2⟩ := u8_nat wa1
  obtain ⟨x3, rfl, h3⟩ := u8_nat wa2
  exact rectPackSquares_w x0 x1 x2 x3 w h0 h1 h2 h3
end Go.Proofs.Ytciaidlkhlgflaa
