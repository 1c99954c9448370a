/- The walk of the law IntegerRing under the signature of its frame. Conditions: none. -/
import Derived.Test.YtmmbmeifljnnhaaDoorUM
import Derived.OpenShut
namespace Go.Proofs.YtmmbmeifljnnhaaDoor
open Go.RowKit
set_option linter.unusedVariables false
theorem integerRing_walk (a0_0 : Bool) (a0_1 : Option Addr) (a0_1l a0_1c : Nat) (a0_1z : List Int) (a1_0 : Bool) (a1_1 : Option Addr) (a1_1l a1_1c : Nat) (a1_1z : List Int) (a2_0 : Bool) (a2_1 : Option Addr) (a2_1l a2_1c : Nat) (a2_1z : List Int) (w : World) (wa0_1 : IsRow .u32 w a0_1 a0_1l a0_1c a0_1z) (wa1_1 : IsRow .u32 w a1_1 a1_1l a1_1c a1_1z) (wa2_1 : IsRow .u32 w a2_1 a2_1l a2_1c a2_1z) (hN : Tb w) :
    Calls Tryd.prog 8 #[.agg #[.bool a0_0, .slice a0_1 a0_1l a0_1c], .agg #[.bool a1_0, .slice a1_1 a1_1l a1_1c], .agg #[.bool a2_0, .slice a2_1 a2_1l a2_1c]] w fun e w' => e = .returned (.bool true) ∧ Below w.heap.size w w' := by
  obtain ⟨xs, e1, e2, e3, e4⟩ := wa0_1.words
  obtain ⟨ys, f1, f2, f3, f4⟩ := wa1_1.words
  obtain ⟨zs, g1, g2, g3, g4⟩ := wa2_1.words
  exact ring_w a0_0 a1_0 a2_0 a0_1 a1_1 a2_1 a0_1l a0_1c a1_1l a1_1c a2_1l a2_1c xs ys zs w e1 f1 g1 e2 f2 g2 e3 f3 g3 hN
end Go.Proofs.YtmmbmeifljnnhaaDoor
