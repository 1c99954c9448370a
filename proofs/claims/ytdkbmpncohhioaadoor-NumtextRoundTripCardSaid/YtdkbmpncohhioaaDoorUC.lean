
import Derived.Test.YtdkbmpncohhioaaDoorUB
import Derived.Deep.RegionHeld3
import Derived.StillTailTactics
/- Z9a -/
namespace Go.Proofs.YtdkbmpncohhioaaDoor
open Go.RowKit
set_option linter.unusedVariables false
set_option linter.unusedSimpArgs false
attribute [local go_sem ↓] Go.wp_at_zero Go.wp_at_succ
theorem RwF.rw {B : Nat} {w : World} {a : Option Addr} {l : List (BitVec 32)} (h : RwF B w a l) : Rw w a l := h.1
/-- The reference's quotient and remainder. -/
def DmQ (w : World) (q r : Int) (e : Ending) (w' : World) : Prop := ∃ a1 c1 a2 c2, e = .returned (.tuple #[.agg #[.bool (decide (q < 0)), .slice a1 (canon q.natAbs).length c1], .agg #[.bool (decide (r < 0)), .slice a2 (canon r.natAbs).length c2], .int .i64 0]) ∧ RwF w.heap.size w' a1 (canon q.natAbs) ∧ RwF w.heap.size w' a2 (canon r.natAbs) ∧ Below w.heap.size w w'
def DrQ (w : World) (q : Int) (e : Ending) (w' : World) : Prop := ∃ a1 c1, e = .returned (.tuple #[.agg #[.bool (decide (q < 0)), .slice a1 (canon q.natAbs).length c1], .int .i64 0]) ∧ RwF w.heap.size w' a1 (canon q.natAbs) ∧ Below w.heap.size w w'
end Go.Proofs.YtdkbmpncohhioaaDoor

/- Z9 -/
namespace Go.Proofs.YtdkbmpncohhioaaDoor
open Go.RowKit
set_option linter.unusedVariables false
set_option linter.unusedSimpArgs false
attribute [local go_sem ↓] Go.wp_at_zero Go.wp_at_succ
end Go.Proofs.YtdkbmpncohhioaaDoor

