/- The walk of the law ColorRoundTrip under the signature of its frame. Conditions: none. -/
import Derived.Test.YtfaiogomhjmhhaaLColorRoundTrip
import Derived.OpenShut
namespace Go.Proofs.Ytfaiogomhjmhhaa
open Go.RowKit
set_option linter.unusedVariables false
theorem colorRoundTrip_walk (a0_0 : Int) (a0_1 : Int) (a0_2 : Int) (a0_3 : Int) (a1_0 : Int) (a1_1 : Int) (a1_2 : Int) (a1_3 : Int) (a1_4 : Int) (a1_5 : Int) (a1_6 : Int) (a1_7 : Int) (a2 : Int) (w : World) (wa0_0 : (Lit.int .u8 a0_0).wf = true) (wa0_1 : (Lit.int .u8 a0_1).wf = true) (wa0_2 : (Lit.int .u8 a0_2).wf = true) (wa0_3 : (Lit.int .u8 a0_3).wf = true) (wa1_0 : (Lit.int .u8 a1_0).wf = true) (wa1_1 : (Lit.int .u8 a1_1).wf = true) (wa1_2 : (Lit.int .u8 a1_2).wf = true) (wa1_3 : (Lit.int .u8 a1_3).wf = true) (wa1_4 : (Lit.int .u8 a1_4).wf = true) (wa1_5 : (Lit.int .u8 a1_5).wf = true) (wa1_6 : (Lit.int .u8 a1_6).wf = true) (wa1_7 : (Lit.int .u8 a1_7).wf = true) (wa2 : (Lit.int .u8 a2).wf = true) :
    Calls Try.prog 6 #[.agg #[.int .u8 a0_0, .int .u8 a0_1, .int .u8 a0_2, .int .u8 a0_3], .agg #[.int .u8 a1_0, .int .u8 a1_1, .int .u8 a1_2, .int .u8 a1_3, .int .u8 a1_4, .int .u8 a1_5, .int .u8 a1_6, .int .u8 a1_7], .int .u8 a2] w fun e w' => e = .returned (.bool true) ∧ Below w.heap.size w w' := by
  have wf : ∀ z : Int, (Lit.int .u8 z).wf = true → 0 ≤ z ∧ z ≤ 255 := fun z h => by simpa [Lit.wf, IntKind.min, IntKind.max, IntKind.signed, IntKind.bits] using h
  exact colorRoundTrip_w a0_0 a0_1 a0_2 a0_3 a1_0 a1_1 a1_2 a1_3 a1_4 a1_5 a1_6 a1_7 a2 (wf _ wa0_0).1 (wf _ wa0_0).2 (wf _ wa0_1).1 (wf _ wa0_1).2 (wf _ wa0_2).1 (wf _ wa0_2).2 (wf _ wa0_3).1 (wf _ wa0_3).2 (wf _ wa1_0).1 (wf _ wa1_0).2 (wf _ wa1_1).1 (wf _ wa1_1).2 (wf _ wa1_2).1 (wf _ wa1_2).2 (wf _ wa1_3).1 (wf _ wa1_3).2 (wf _ wa1_4).1 (wf _ wa1_4).2 (wf _ wa1_5).1 (wf _ wa1_5).2 (wf _ wa1_6).1 (wf _ wa1_6).2 (wf _ wa1_7).1 (wf _ wa1_7).2 (wf _ wa2).1 (wf _ wa2).2  w
end Go.Proofs.Ytfaiogomhjmhhaa
