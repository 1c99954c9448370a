/- The walk of the law BinencRuns under the signature of its frame. Conditions: none. -/
import Derived.Test.YtbplcgbfhijbcaaLf4
import Derived.OpenShut
namespace Go.Proofs.Ytbplcgbfhijbcaa
open Go.RowKit
set_option linter.unusedVariables false
theorem binencRuns_walk (a0 : Option Addr) (a0l a0c : Nat) (a0z : List Int) (a1 : Option Addr) (a1l a1c : Nat) (a1z : List Int) (a2_0 : Int) (a2_1 : Int) (w : World) (wa0 : IsRow .u8 w a0 a0l a0c a0z) (wa1 : IsRow .u8 w a1 a1l a1c a1z) (wa2_0 : (Lit.int .i64 a2_0).wf = true) (wa2_1 : (Lit.int .i64 a2_1).wf = true) (z0 : a0c * 1 ≤ 140737488351232) (z1 : a1c * 1 ≤ 140737488351232) :
    Calls Try.prog 10 #[.slice a0 a0l a0c, .slice a1 a1l a1c, .agg #[.int .i64 a2_0, .int .i64 a2_1]] w fun e w' => e = .returned (.bool true) ∧ Below w.heap.size w w' := by
  obtain ⟨l, hn, hc, hr, _⟩ := wa0.bytes
  obtain ⟨k, hm, hd, hs, _⟩ := wa1.bytes
  have b3 := bounds_i64 wa2_1
  exact lru_w a0 a1 _ _ _ _ l k a2_0 a2_1 w hn hc hm hd (by omega) (by omega) b3.2 hr hs
end Go.Proofs.Ytbplcgbfhijbcaa
