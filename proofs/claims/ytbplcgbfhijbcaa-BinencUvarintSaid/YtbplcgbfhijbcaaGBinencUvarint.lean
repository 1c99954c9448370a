/- The walk of the law BinencUvarint under the signature of its frame. Conditions: none. -/
import Derived.Test.YtbplcgbfhijbcaaLf1
import Derived.OpenShut
namespace Go.Proofs.Ytbplcgbfhijbcaa
open Go.RowKit
set_option linter.unusedVariables false
theorem binencUvarint_walk (a0 : Int) (a1 : Option Addr) (a1l a1c : Nat) (a1z : List Int) (a2 : Int) (w : World) (wa0 : (Lit.int .u64 a0).wf = true) (wa1 : IsRow .u8 w a1 a1l a1c a1z) (wa2 : (Lit.int .i64 a2).wf = true) (z1 : a1c * 1 ≤ 140737488351232) :
    Calls Try.prog 3 #[.int .u64 a0, .slice a1 a1l a1c, .int .i64 a2] w fun e w' => e = .returned (.bool true) ∧ Below w.heap.size w w' := by
  obtain ⟨l, hn, hc, hr, _⟩ := wa1.bytes
  have b0 := bounds_u64 wa0
  obtain ⟨x, rfl⟩ : ∃ x : Nat, a0 = (x : Int) := ⟨a0.toNat, by omega⟩
  exact luv_w x a1 _ _ l a2 w (by omega) hn hc (by omega) hr
end Go.Proofs.Ytbplcgbfhijbcaa
