
import Derived.Test.YtcofiekfhnfjpaaPH
namespace Go.Proofs.Ytcofiekfhnfjpaa
open Go.RowKit
set_option linter.unusedVariables false
set_option linter.unusedSimpArgs false
end Go.Proofs.Ytcofiekfhnfjpaa
