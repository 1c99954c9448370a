
/- The walk of the law RationalRounding under the signature of its frame. Conditions: none. -/
import Derived.Test.YtcofiekfhnfjpaaSP
import Derived.OpenShut
namespace Go.Proofs.Ytcofiekfhnfjpaa
open Go.RowKit
set_option linter.unusedVariables false
theorem rationalRounding_walk (a0_0 : Bool) (a0_1 : Option Addr) (a0_1l a0_1c : Nat) (a0_1z : List Int) (a0_2 : Bool) (a0_3 : Option Addr) (a0_3l a0_3c : Nat) (a0_3z : List Int) (w : World) (wa0_1 : IsRow .u32 w a0_1 a0_1l a0_1c a0_1z) (wa0_3 : IsRow .u32 w a0_3 a0_3l a0_3c a0_3z) :
    Calls Try.prog 5 #[.agg #[.bool a0_0, .slice a0_1 a0_1l a0_1c, .bool a0_2, .slice a0_3 a0_3l a0_3c]] w fun e w' => e = .returned (.bool true) ∧ Below w.heap.size w w' := by
  obtain ⟨l, hn0, hc0, hr0, _⟩ := wa0_1.words
  obtain ⟨k, hn1, hc1, hr1, _⟩ := wa0_3.words
  have hm0 := isrow_le wa0_1
  have hm1 := isrow_le wa0_3
  subst hn0
  subst hn1
  exact lr_any a0_0 a0_2 a0_1 a0_3 _ _ l k w hr0 hr1 hc0 hc1 hm0 hm1
end Go.Proofs.Ytcofiekfhnfjpaa
