import Derived.Test.YtcklplodbdbciaaMod
namespace Go.Proofs.Ytcklplodbdbciaa
set_option linter.unusedVariables false
set_option linter.unusedSimpArgs false
/- plain facts: offsets under a spread mode -/
def spV (t s : Int) : Int := if s = 1 then clampV t 0 65536 else if s = 2 then t % 65536 else if s = 3 then min (t % 131072) (131072 - t % 131072) else 0
theorem spV_bd (t s : Int) : 0 ≤ spV t s ∧ spV t s ≤ 65536 := by
  unfold spV clampV; split
  · split
    · omega
    · split <;> omega
  · split
    · omega
    · split <;> omega
end Go.Proofs.Ytcklplodbdbciaa
