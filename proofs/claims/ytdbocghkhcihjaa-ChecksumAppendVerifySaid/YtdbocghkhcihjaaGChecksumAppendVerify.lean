/- The walk of the law ChecksumAppendVerify under the signature of its frame. Conditions: none. -/
import Derived.Test.YtdbocghkhcihjaaK7
import Derived.OpenShut
namespace Go.Proofs.Ytdbocghkhcihjaa
open Go.RowKit
set_option linter.unusedVariables false
theorem checksumAppendVerify_walk (a0 : Option Addr) (a0l a0c : Nat) (a0z : List Int) (a1 : Option Addr) (a1l a1c : Nat) (a1z : List Int) (w : World) (wa0 : IsRow .u8 w a0 a0l a0c a0z) (wa1 : IsRow .u8 w a1 a1l a1c a1z) :
    Calls Try.prog 5 #[.slice a0 a0l a0c, .slice a1 a1l a1c] w fun e w' => e = .returned (.bool true) ∧ Below w.heap.size w w' := by
  obtain ⟨l, hn, _, hr, _⟩ := wa0.bytes
  obtain ⟨k, hm, hmd, hs, _⟩ := wa1.bytes
  exact av_w _ _ _ l _ _ _ k w hn hm hmd hr hs
end Go.Proofs.Ytdbocghkhcihjaa
