
/- The walk of the law IntegerArithmetic under the signature of its frame. Conditions: none. -/
import Derived.Test.YtcofiekfhnfjpaaDoorAC
import Derived.OpenShut
namespace Go.Proofs.YtcofiekfhnfjpaaDoor
open Go.RowKit
set_option linter.unusedVariables false
theorem integerArithmetic_walk (a0_0 : Bool) (a0_1 : Option Addr) (a0_1l a0_1c : Nat) (a0_1z : List Int) (a1_0 : Bool) (a1_1 : Option Addr) (a1_1l a1_1c : Nat) (a1_1z : List Int) (w : World) (wa0_1 : IsRow .u32 w a0_1 a0_1l a0_1c a0_1z) (wa1_1 : IsRow .u32 w a1_1 a1_1l a1_1c a1_1z) (hN : Tb w) :
    Calls Tryd.prog 3 #[.agg #[.bool a0_0, .slice a0_1 a0_1l a0_1c], .agg #[.bool a1_0, .slice a1_1 a1_1l a1_1c]] w fun e w' => e = .returned (.bool true) ∧ Below w.heap.size w w' := by
  obtain ⟨l, hn0, hc0, hr0, _⟩ := wa0_1.words
  obtain ⟨k, hn1, hc1, hr1, _⟩ := wa1_1.words
  subst hn0
  subst hn1
  exact ia_any a0_0 a1_0 a0_1 a1_1 _ _ l k w hr0 hr1 hN hc0 hc1
end Go.Proofs.YtcofiekfhnfjpaaDoor
