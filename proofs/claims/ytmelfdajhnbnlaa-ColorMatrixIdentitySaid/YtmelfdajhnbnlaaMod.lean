
import Derived.Test.YtmelfdajhnbnlaaClamp
import Derived.Test.YtmelfdajhnbnlaaRows
import Derived.WalkKit
import Derived.WalkSpells
import Derived.WalkLawsBesides
import Derived.Lib.Hide
namespace Go.Proofs.Ytmelfdajhnbnlaa
open Go.RowKit
set_option linter.unusedVariables false
set_option linter.unusedSimpArgs false
def modV (a b : Int) : Int := if b ≤ 0 then 0 else a % b

end Go.Proofs.Ytmelfdajhnbnlaa
