
import Derived.Test.YtcofiekfhnfjpaaJB
import Derived.Deep.RegionHeld3
namespace Go.Proofs.Ytcofiekfhnfjpaa
open Go.RowKit
set_option linter.unusedVariables false
set_option linter.unusedSimpArgs false
attribute [local go_sem ↓] Go.wp_at_zero Go.wp_at_succ
theorem Rw.dr {W : World} {a : Option Addr} {l : List (BitVec 32)} (h : Rw W a l) : Rw W.drew a l := h.below (Below.refl _ _).drew
end Go.Proofs.Ytcofiekfhnfjpaa
