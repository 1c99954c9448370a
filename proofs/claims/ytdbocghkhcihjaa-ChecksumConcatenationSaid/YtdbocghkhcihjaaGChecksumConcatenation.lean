/- The walk of the law ChecksumConcatenation under the signature of its frame. Conditions: none. -/
import Derived.Test.YtdbocghkhcihjaaK7
import Derived.OpenShut
namespace Go.Proofs.Ytdbocghkhcihjaa
open Go.RowKit
set_option linter.unusedVariables false
theorem checksumConcatenation_walk (a0 : Option Addr) (a0l a0c : Nat) (a0A : Nat → Option Addr) (a0L a0C : Nat → Nat) (a0Z : Nat → List Int) (w : World) (wa0 : IsRows .u8 w a0 a0l a0c a0A a0L a0C a0Z) :
    Calls Try.prog 4 #[.slice a0 a0l a0c] w fun e w' => e = .returned (.bool true) ∧ Below w.heap.size w w' := by
  obtain ⟨ls, hn, _, hr⟩ := wa0.bytes
  exact concat_w _ _ _ ls w hn hr
end Go.Proofs.Ytdbocghkhcihjaa
