
import Derived.Test.YtcofiekfhnfjpaaJ9
import Derived.Test.YtcofiekfhnfjpaaPI
import Derived.Test.YtcofiekfhnfjpaaUC
namespace Go.Proofs.Ytcofiekfhnfjpaa
open Go.RowKit
set_option linter.unusedVariables false
set_option linter.unusedSimpArgs false
attribute [local go_sem ↓] Go.wp_at_zero Go.wp_at_succ
end Go.Proofs.Ytcofiekfhnfjpaa
