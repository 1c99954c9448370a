/- The walk of the law BinencVarint under the signature of its frame. Conditions: none. -/
import Derived.Test.YtbplcgbfhijbcaaLf1
import Derived.OpenShut
namespace Go.Proofs.Ytbplcgbfhijbcaa
open Go.RowKit
set_option linter.unusedVariables false
theorem binencVarint_walk (a0 : Int) (a1 : Option Addr) (a1l a1c : Nat) (a1z : List Int) (a2 : Int) (w : World) (wa0 : (Lit.int .i64 a0).wf = true) (wa1 : IsRow .u8 w a1 a1l a1c a1z) (wa2 : (Lit.int .i64 a2).wf = true) (z1 : a1c * 1 ≤ 140737488351232) :
    Calls Try.prog 4 #[.int .i64 a0, .slice a1 a1l a1c, .int .i64 a2] w fun e w' => e = .returned (.bool true) ∧ Below w.heap.size w w' := by
  obtain ⟨l, hn, hc, hr, _⟩ := wa1.bytes
  have b0 := bounds_i64 wa0
  exact ldv_w a0 a1 _ _ l a2 w b0.1 b0.2 hn hc (by omega) hr
end Go.Proofs.Ytbplcgbfhijbcaa
