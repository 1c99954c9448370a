/- The walk of the law IntegerConstructors under the signature of its frame. Conditions: none. -/
import Derived.Test.YtmmbmeifljnnhaaDoorUJ
import Derived.OpenShut
namespace Go.Proofs.YtmmbmeifljnnhaaDoor
open Go.RowKit
set_option linter.unusedVariables false
theorem integerConstructors_walk (a0 : Bool) (a1 : Option Addr) (a1l a1c : Nat) (a1z : List Int) (a2 : Int) (w : World) (wa1 : IsRow .u32 w a1 a1l a1c a1z) (wa2 : (Lit.int .i64 a2).wf = true) (hN : Tb w) :
    Calls Tryd.prog 3 #[.bool a0, .slice a1 a1l a1c, .int .i64 a2] w fun e w' => e = .returned (.bool true) ∧ Below w.heap.size w w' := by
  obtain ⟨bs, e1, e2, e3, e4⟩ := wa1.words; have e5 : -9223372036854775808 ≤ a2 ∧ a2 ≤ 9223372036854775807 := by simpa [Lit.wf, IntKind.min, IntKind.max, IntKind.signed, IntKind.bits] using wa2
  exact constr_w a0 a1 a1l a1c bs a2 w e1 e2 e3 e5.1 e5.2 hN
end Go.Proofs.YtmmbmeifljnnhaaDoor
