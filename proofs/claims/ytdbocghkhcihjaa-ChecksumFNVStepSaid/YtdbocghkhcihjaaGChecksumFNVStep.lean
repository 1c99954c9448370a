/- The walk of the law ChecksumFNVStep under the signature of its frame. Conditions: none. -/
import Derived.Test.YtdbocghkhcihjaaK6
import Derived.OpenShut
namespace Go.Proofs.Ytdbocghkhcihjaa
open Go.RowKit
set_option linter.unusedVariables false
theorem checksumFNVStep_walk (a0 : Option Addr) (a0l a0c : Nat) (a0z : List Int) (a1 : Int) (a2 : Int) (w : World) (wa0 : IsRow .u8 w a0 a0l a0c a0z) (wa1 : (Lit.int .u8 a1).wf = true) (wa2 : (Lit.int .u8 a2).wf = true) :
    Calls Try.prog 8 #[.slice a0 a0l a0c, .int .u8 a1, .int .u8 a2] w fun e w' => e = .returned (.bool true) ∧ Below w.heap.size w w' := by
  obtain ⟨l, hn, _, hr, _⟩ := wa0.bytes
  obtain ⟨m, rfl⟩ := u8_of_wf wa1
  obtain ⟨k, rfl⟩ := u8_of_wf wa2
  exact fnvstep_w _ _ _ l m k w hn hr
end Go.Proofs.Ytdbocghkhcihjaa
