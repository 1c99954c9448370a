/- The walk of the law IntmathValues under the signature of its frame. Conditions: none. -/
import Derived.Test.YthofacdiajhjmaaLwIv
import Derived.OpenShut
namespace Go.Proofs.Ythofacdiajhjmaa
open Go.RowKit
set_option linter.unusedVariables false
theorem intmathValues_walk (a0 : Int) (a1 : Int) (a2_0 : Int) (a2_1 : Int) (w : World) (wa0 : (Lit.int .u64 a0).wf = true) (wa1 : (Lit.int .i64 a1).wf = true) (wa2_0 : (Lit.int .i64 a2_0).wf = true) (wa2_1 : (Lit.int .i64 a2_1).wf = true) :
    Calls Try.prog 3 #[.int .u64 a0, .int .i64 a1, .agg #[.int .i64 a2_0, .int .i64 a2_1]] w fun e w' => e = .returned (.bool true) ∧ Below w.heap.size w w' := by
  obtain ⟨h0, h0'⟩ := bounds_u64 wa0
  obtain ⟨h1, h1'⟩ := bounds_i64 wa1
  obtain ⟨h2, h2'⟩ := bounds_i64 wa2_0
  obtain ⟨h3, h3'⟩ := bounds_i64 wa2_1
  exact intmathValues_w a0 a1 a2_0 a2_1 h0 h0' h1 h1' h2 h2' h3 h3' w
end Go.Proofs.Ythofacdiajhjmaa
