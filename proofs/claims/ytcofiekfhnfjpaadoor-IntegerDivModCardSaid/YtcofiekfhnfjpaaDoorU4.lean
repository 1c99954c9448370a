
import Derived.Test.YtcofiekfhnfjpaaDoorU2
import Derived.Test.YtcofiekfhnfjpaaDoorU3
import Derived.Deep.RegionHeld3
import Derived.Deep.DrawnRows
import Derived.Deep.DeepFit
import Derived.Laws.BitsAllLaws
import Derived.StillTailTactics
/- I1 -/
namespace Go.Proofs.YtcofiekfhnfjpaaDoor
open Go.RowKit
set_option linter.unusedVariables false
set_option linter.unusedSimpArgs false
attribute [local go_sem ↓] Go.wp_at_zero Go.wp_at_succ
/-- An integer of unlimited size is returned: its sign and its digits, in a row of its own. -/
def FrI (w : World) (s : Bool) (K : Nat) (e : Ending) (w' : World) : Prop := ∃ a c, e = .returned (.agg #[.bool s, .slice a (canon K).length c]) ∧ RwF w.heap.size w' a (canon K) ∧ Below w.heap.size w w'
theorem canon_len_zero {n : Nat} : (canon n).length = 0 ↔ n = 0 := by
  constructor
  · intro h
    rcases Nat.eq_zero_or_pos n with h0 | h0
    · exact h0
    · have := canon_len_pos h0
      omega
  · rintro rfl
    rw [canon_zero]; rfl
end Go.Proofs.YtcofiekfhnfjpaaDoor

/- I2 -/
namespace Go.Proofs.YtcofiekfhnfjpaaDoor
open Go.RowKit
set_option linter.unusedVariables false
set_option linter.unusedSimpArgs false
attribute [local go_sem ↓] Go.wp_at_zero Go.wp_at_succ
def sgV (s : Bool) (K : Nat) : Int := if K = 0 then 0 else if s then -1 else 1
end Go.Proofs.YtcofiekfhnfjpaaDoor

/- I3 -/
namespace Go.Proofs.YtcofiekfhnfjpaaDoor
open Go.RowKit
set_option linter.unusedVariables false
set_option linter.unusedSimpArgs false
attribute [local go_sem ↓] Go.wp_at_zero Go.wp_at_succ
end Go.Proofs.YtcofiekfhnfjpaaDoor

/- I4 -/
namespace Go.Proofs.YtcofiekfhnfjpaaDoor
open Go.RowKit
set_option linter.unusedVariables false
set_option linter.unusedSimpArgs false
attribute [local go_sem ↓] Go.wp_at_zero Go.wp_at_succ
end Go.Proofs.YtcofiekfhnfjpaaDoor

