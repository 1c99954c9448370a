/- The walk of the law RectPackDisjoint under the signature of its frame. Conditions: none. -/
import Derived.Test.YtciaidlkhlgflaaLs
import Derived.OpenShut
namespace Go.Proofs.Ytciaidlkhlgflaa
open Go.RowKit
set_option linter.unusedVariables false
theorem rectPackDisjoint_walk (a0 : Int) (a1 : Int) (a2 : Option Addr) (a2l a2c : Nat) (a2z : List (Int × Int)) (w : World) (wa0 : (Lit.int .i64 a0).wf = true) (wa1 : (Lit.int .i64 a1).wf = true) (wa2 : IsRecs 2 (fun x : Int × Int => [.int .i64 x.1, .int .i64 x.2]) (fun x : Int × Int => (Lit.int .i64 x.1).wf = true ∧ (Lit.int .i64 x.2).wf = true) w a2 a2l a2c a2z) :
    Calls Try.prog 7 #[.int .i64 a0, .int .i64 a1, .slice a2 a2l a2c] w fun e w' => e = .returned (.bool true) ∧ Below w.heap.size w w' := by
  exact rectPackDisjoint_w a0 a1 a2 a2l a2c a2z w wa2.len.1 wa2.rs
end Go.Proofs.Ytciaidlkhlgflaa
