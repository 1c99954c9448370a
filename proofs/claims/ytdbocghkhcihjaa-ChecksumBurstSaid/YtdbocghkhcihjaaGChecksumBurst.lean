/- The walk of the law ChecksumBurst under the signature of its frame. Conditions: none. -/
import Derived.Test.YtdbocghkhcihjaaK8
import Derived.OpenShut
namespace Go.Proofs.Ytdbocghkhcihjaa
open Go.RowKit
set_option linter.unusedVariables false
theorem checksumBurst_walk (a0 : Option Addr) (a0l a0c : Nat) (a0z : List Int) (a1 : Int) (a2 : Int) (w : World) (wa0 : IsRow .u8 w a0 a0l a0c a0z) (wa1 : (Lit.int .u16 a1).wf = true) (wa2 : (Lit.int .u32 a2).wf = true) :
    Calls Try.prog 7 #[.slice a0 a0l a0c, .int .u16 a1, .int .u32 a2] w fun e w' => e = .returned (.bool true) ∧ Below w.heap.size w w' := by
  obtain ⟨l, hn, _, hr, _⟩ := wa0.bytes
  have b1 := bounds_u16 wa1
  obtain ⟨x, rfl⟩ : ∃ x : Nat, a1 = (x : Int) := ⟨a1.toNat, by omega⟩
  obtain ⟨T, rfl⟩ := u32_of_wf wa2
  exact burst_w _ _ _ l x T w (by omega) hn hr
end Go.Proofs.Ytdbocghkhcihjaa
