/- The walk of the law BinencCanonical under the signature of its frame. Conditions: none. -/
import Derived.Test.YtbplcgbfhijbcaaLf9
import Derived.OpenShut
namespace Go.Proofs.Ytbplcgbfhijbcaa
open Go.RowKit
set_option linter.unusedVariables false
theorem binencCanonical_walk (a0 : Option Addr) (a0l a0c : Nat) (a0z : List Int) (a1 : Int) (w : World) (wa0 : IsRow .u8 w a0 a0l a0c a0z) (wa1 : (Lit.int .i64 a1).wf = true) :
    Calls Try.prog 8 #[.slice a0 a0l a0c, .int .i64 a1] w fun e w' => e = .returned (.bool true) ∧ Below w.heap.size w w' := by
  obtain ⟨l, hn, hc, hr, _⟩ := wa0.bytes
  exact lcn_w a0 _ _ a1 l w hn hc (isrow_le wa0) hr
end Go.Proofs.Ytbplcgbfhijbcaa
