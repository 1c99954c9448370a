/- The walk of the law IntegerDivision under the signature of its frame. Conditions: none. -/
import Derived.Test.YtmmbmeifljnnhaaDoorUK
import Derived.OpenShut
namespace Go.Proofs.YtmmbmeifljnnhaaDoor
open Go.RowKit
set_option linter.unusedVariables false
theorem integerDivision_walk (a0_0 : Bool) (a0_1 : Option Addr) (a0_1l a0_1c : Nat) (a0_1z : List Int) (a1_0 : Bool) (a1_1 : Option Addr) (a1_1l a1_1c : Nat) (a1_1z : List Int) (w : World) (wa0_1 : IsRow .u32 w a0_1 a0_1l a0_1c a0_1z) (wa1_1 : IsRow .u32 w a1_1 a1_1l a1_1c a1_1z) (hN : Tb w) :
    Calls Tryd.prog 5 #[.agg #[.bool a0_0, .slice a0_1 a0_1l a0_1c], .agg #[.bool a1_0, .slice a1_1 a1_1l a1_1c]] w fun e w' => e = .returned (.bool true) ∧ Below w.heap.size w w' := by
  obtain ⟨xs, e1, e2, e3, e4⟩ := wa0_1.words
  obtain ⟨ys, f1, f2, f3, f4⟩ := wa1_1.words
  exact divis_w a0_0 a1_0 a0_1 a1_1 a0_1l a0_1c a1_1l a1_1c xs ys w e1 f1 e2 f2 e3 f3 hN
end Go.Proofs.YtmmbmeifljnnhaaDoor
