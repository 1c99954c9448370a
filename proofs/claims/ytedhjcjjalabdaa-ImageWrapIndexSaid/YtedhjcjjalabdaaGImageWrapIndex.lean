/- The walk of the law ImageWrapIndex under the signature of its frame. Conditions: none. -/
import Derived.Test.YtedhjcjjalabdaaLwWrap
import Derived.OpenShut
namespace Go.Proofs.Ytedhjcjjalabdaa
open Go.RowKit
set_option linter.unusedVariables false
theorem imageWrapIndex_walk (a0 : Int) (a1 : Int) (a2 : Int) (w : World) (wa0 : (Lit.int .i64 a0).wf = true) (wa1 : (Lit.int .i64 a1).wf = true) (wa2 : (Lit.int .i64 a2).wf = true) :
    Calls Try.prog 3 #[.int .i64 a0, .int .i64 a1, .int .i64 a2] w fun e w' => e = .returned (.bool true) ∧ Below w.heap.size w w' := by
  obtain ⟨h0, h0x⟩ := bounds_i64 wa0
  obtain ⟨h1, h1x⟩ := bounds_i64 wa1
  exact imageWrapIndex_w a0 a1 a2 h0 h0x h1 h1x w
end Go.Proofs.Ytedhjcjjalabdaa
