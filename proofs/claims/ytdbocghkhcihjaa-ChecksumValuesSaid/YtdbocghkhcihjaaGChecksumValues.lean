/- The walk of the law ChecksumValues under the signature of its frame. Conditions: none. -/
import Derived.Test.YtdbocghkhcihjaaK7
import Derived.OpenShut
namespace Go.Proofs.Ytdbocghkhcihjaa
open Go.RowKit
set_option linter.unusedVariables false
theorem checksumValues_walk (a0 : Option Addr) (a0l a0c : Nat) (a0A : Nat → Option Addr) (a0L a0C : Nat → Nat) (a0Z : Nat → List Int) (a1 : Int) (a2 : Option Addr) (a2l a2c : Nat) (a2z : List Int) (w : World) (wa0 : IsRows .u8 w a0 a0l a0c a0A a0L a0C a0Z) (wa1 : (Lit.int .u32 a1).wf = true) (wa2 : IsRow .u8 w a2 a2l a2c a2z) :
    Calls Try.prog 3 #[.slice a0 a0l a0c, .int .u32 a1, .slice a2 a2l a2c] w fun e w' => e = .returned (.bool true) ∧ Below w.heap.size w w' := by
  obtain ⟨ls, hn, _, hr⟩ := wa0.bytes
  obtain ⟨s, rfl⟩ := u32_of_wf wa1
  obtain ⟨l, hm, _, hs, _⟩ := wa2.bytes
  exact values_w _ _ _ ls s _ _ _ l w hn hm hr hs
end Go.Proofs.Ytdbocghkhcihjaa
