
import Derived.Test.YthofacdiajhjmaaOrd
import Derived.Test.YthofacdiajhjmaaOwn
import Derived.Below
import Derived.Deep.QuietTactic
import Derived.BigQuiet
namespace Go.Proofs.Ythofacdiajhjmaa
open Go.RowKit
set_option linter.unusedVariables false
set_option linter.unusedSimpArgs false
end Go.Proofs.Ythofacdiajhjmaa
