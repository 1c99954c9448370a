/- The walk of the law BinencSequencesCanonical under the signature of its frame. Conditions: none. -/
import Derived.Test.YtbplcgbfhijbcaaLf6
import Derived.OpenShut
namespace Go.Proofs.Ytbplcgbfhijbcaa
open Go.RowKit
set_option linter.unusedVariables false
theorem binencSequencesCanonical_walk (a0 : Option Addr) (a0l a0c : Nat) (a0z : List Int) (a1 : Int) (w : World) (wa0 : IsRow .u8 w a0 a0l a0c a0z) (wa1 : (Lit.int .i64 a1).wf = true) (z0 : a0c * 1 ≤ 140737488351232) :
    Calls Try.prog 12 #[.slice a0 a0l a0c, .int .i64 a1] w fun e w' => e = .returned (.bool true) ∧ Below w.heap.size w w' := by
  obtain ⟨l, hn, hc, hr, _⟩ := wa0.bytes
  exact lsc_w a0 _ _ a1 l w hn hc (by omega) hr
end Go.Proofs.Ytbplcgbfhijbcaa
