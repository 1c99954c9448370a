/- The walk of the law IntegerText under the signature of its frame. Conditions: none. -/
import Derived.Test.YtmmbmeifljnnhaaDoorUI
import Derived.OpenShut
namespace Go.Proofs.YtmmbmeifljnnhaaDoor
open Go.RowKit
set_option linter.unusedVariables false
theorem integerText_walk (a0_0 : Bool) (a0_1 : Option Addr) (a0_1l a0_1c : Nat) (a0_1z : List Int) (a1 : ByteArray) (w : World) (wa0_1 : IsRow .u32 w a0_1 a0_1l a0_1c a0_1z) (wa1 : a1.size ≤ maxLen) (hN : Tb w) :
    Calls Tryd.prog 6 #[.agg #[.bool a0_0, .slice a0_1 a0_1l a0_1c], .string a1] w fun e w' => e = .returned (.bool true) ∧ Below w.heap.size w w' := by
  obtain ⟨bs, e1, e2, e3, e4⟩ := wa0_1.words; exact text_w a0_0 a0_1 a0_1l a0_1c bs a1 w e1 e2 e3 hN
end Go.Proofs.YtmmbmeifljnnhaaDoor
