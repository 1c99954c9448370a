
import Derived.Test.YtcofiekfhnfjpaaS1
import Derived.Test.YtcofiekfhnfjpaaS0
import Derived.StillTailTactics
namespace Go.Proofs.Ytcofiekfhnfjpaa
open Go.RowKit
set_option linter.unusedVariables false
set_option linter.unusedSimpArgs false
attribute [local go_sem ↓] Go.wp_at_zero Go.wp_at_succ
attribute [local go_sem] rhoF_tmp rhoF_const rhoF_global rhoF_func
end Go.Proofs.Ytcofiekfhnfjpaa
