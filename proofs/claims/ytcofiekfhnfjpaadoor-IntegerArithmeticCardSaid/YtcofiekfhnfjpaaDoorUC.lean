
import Derived.Test.YtcofiekfhnfjpaaDoorUB
import Derived.Deep.RegionHeld3
import Derived.StillTailTactics
/- Z9a -/
namespace Go.Proofs.YtcofiekfhnfjpaaDoor
open Go.RowKit
set_option linter.unusedVariables false
set_option linter.unusedSimpArgs false
attribute [local go_sem ↓] Go.wp_at_zero Go.wp_at_succ
theorem RwF.rw {B : Nat} {w : World} {a : Option Addr} {l : List (BitVec 32)} (h : RwF B w a l) : Rw w a l := h.1
end Go.Proofs.YtcofiekfhnfjpaaDoor

/- Z9 -/
namespace Go.Proofs.YtcofiekfhnfjpaaDoor
open Go.RowKit
set_option linter.unusedVariables false
set_option linter.unusedSimpArgs false
attribute [local go_sem ↓] Go.wp_at_zero Go.wp_at_succ
end Go.Proofs.YtcofiekfhnfjpaaDoor

