/- The walk of the law RectPackPrefix under the signature of its frame. Conditions: none. -/
import Derived.Test.YtciaidlkhlgflaaLq
import Derived.OpenShut
namespace Go.Proofs.Ytciaidlkhlgflaa
open Go.RowKit
set_option linter.unusedVariables false
theorem rectPackPrefix_walk (a0_0 : Int) (a0_1 : Int) (a0_2 : Int) (a1 : Option Addr) (a1l a1c : Nat) (a1z : List (Int × Int)) (a2 : Int) (w : World) (wa0_0 : (Lit.int .i64 a0_0).wf = true) (wa0_1 : (Lit.int .i64 a0_1).wf = true) (wa0_2 : (Lit.int .i64 a0_2).wf = true) (wa1 : IsRecs 2 (fun x : Int × Int => [.int .i64 x.1, .int .i64 x.2]) (fun x : Int × Int => (Lit.int .i64 x.1).wf = true ∧ (Lit.int .i64 x.2).wf = true) w a1 a1l a1c a1z) (wa2 : (Lit.int .i64 a2).wf = true) :
    Calls Try.prog 8 #[.agg #[.int .i64 a0_0, .int .i64 a0_1, .int .i64 a0_2], .slice a1 a1l a1c, .int .i64 a2] w fun e w' => e = .returned (.bool true) ∧ Below w.heap.size w w' := by
  exact rectPackPrefix_w a0_0 a0_1 a0_2 a1 a1l a1c a1z a2 w wa1.len.1 wa1.len.2.1 wa1.rs
end Go.Proofs.Ytciaidlkhlgflaa
