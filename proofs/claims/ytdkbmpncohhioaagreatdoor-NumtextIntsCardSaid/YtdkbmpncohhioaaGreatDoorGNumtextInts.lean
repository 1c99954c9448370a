/- The walk of the law NumtextInts under the signature of its frame. Conditions: none. -/
import Derived.Test.YtdkbmpncohhioaaGreatDoorNtc
import Derived.OpenShut
namespace Go.Proofs.YtdkbmpncohhioaaGreatDoor
open Go.RowKit
set_option linter.unusedVariables false
theorem numtextInts_walk (a0 : Int) (a1 : ByteArray) (a2 : Int) (a3 : Int) (w : World) (wa0 : (Lit.int .i64 a0).wf = true) (wa1 : a1.size ≤ maxLen) (wa2 : (Lit.int .i64 a2).wf = true) (wa3 : (Lit.int .i64 a3).wf = true) (hN : Tb w) (hM : Mx w) :
    Calls Tryz.prog 3 #[.int .i64 a0, .string a1, .int .i64 a2, .int .i64 a3] w fun e w' => e = .returned (.bool true) ∧ Below w.heap.size w w' := by
  have b0 := bounds_i64 wa0
  exact nin_w a0 a1 a2 a3 w b0.1 b0.2 (Nat.le_trans wa1 (by unfold maxLen; omega)) hN hM
end Go.Proofs.YtdkbmpncohhioaaGreatDoor
