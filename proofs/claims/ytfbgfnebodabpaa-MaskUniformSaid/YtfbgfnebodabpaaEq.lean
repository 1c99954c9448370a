import Derived.Test.YtfbgfnebodabpaaRows
import Derived.WalkKit
import Derived.WalkSpells
import Derived.Laws.StructEq
import Derived.KernelRfl
namespace Go.Proofs.Ytfbgfnebodabpaa
open Go.RowKit
set_option linter.unusedVariables false
set_option linter.unusedSimpArgs false
/-- Two rectangles are equal. -/
def rEq (a b c d x y z u : Int) : Bool := decide (a = x ∧ b = y ∧ c = z ∧ d = u)
theorem rEq_iff (a b c d x y z u : Int) : rEq a b c d x y z u = true ↔ a = x ∧ b = y ∧ c = z ∧ d = u := by simp [rEq]
theorem rEq_self (a b c d : Int) : rEq a b c d a b c d = true := by simp [rEq]
theorem eq_rect (a b c d x y z u : Int) (w : World) : (Op.equalIn 10000 23 (.agg #[.int .i64 a, .int .i64 b, .int .i64 c, .int .i64 d]) (.agg #[.int .i64 x, .int .i64 y, .int .i64 z, .int .i64 u])).run Try.prog w = .ok (rEq a b c d x y z u) w := by
  have u3 := Try.underlying3
  have hS : Try.prog.underlying 23 = some (.struct (Try.prog.fieldsOf 23)) := by kernel_rfl
  have hp : Try.prog.stoodInHeld 23 = false := by kernel_rfl
  rw [show (10000 : Nat) = 9999 + 1 from rfl, run_equalIn_agg w 9999 23 _ _ hS hp]
  simp only [Program.fieldsOf, Try.underlying23]
  go_simp
  by_cases h1 : a = x <;> by_cases h2 : b = y <;> by_cases h3 : c = z <;> by_cases h4 : d = u <;> simp [rEq, h1, h2, h3, h4]
end Go.Proofs.Ytfbgfnebodabpaa
