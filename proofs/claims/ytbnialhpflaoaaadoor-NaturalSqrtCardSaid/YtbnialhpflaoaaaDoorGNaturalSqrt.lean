/- The walk of the law NaturalSqrt under the signature of its frame. Conditions: none. -/
import Derived.Test.YtbnialhpflaoaaaDoorLq
import Derived.OpenShut
namespace Go.Proofs.YtbnialhpflaoaaaDoor
open Go.RowKit
set_option linter.unusedVariables false
theorem naturalSqrt_walk (a0 : Option Addr) (a0l a0c : Nat) (a0z : List Int) (w : World) (wa0 : IsRow .u32 w a0 a0l a0c a0z) (hN : Tb w) :
    Calls Tryd.prog 8 #[.slice a0 a0l a0c] w fun e w' => e = .returned (.bool true) ∧ Below w.heap.size w w' := by
  obtain ⟨l, hn, hnc, hr, _⟩ := wa0.words
  exact sqrt_w a0 _ _ l w hn hnc hr hN
end Go.Proofs.YtbnialhpflaoaaaDoor
