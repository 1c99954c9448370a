
import Derived.Test.YtmelfdajhnbnlaaVecNum
import Derived.Test.YtmelfdajhnbnlaaRows
import Derived.WalkKit
import Derived.WalkSpells
import Derived.WalkLawsBesides
import Derived.Lib.Hide
import Derived.Below
import Derived.Deep.QuietTactic
import Derived.BigQuiet
import Derived.Deep.RegionHeld3
import Derived.Deep.DrawnRows
namespace Go.Proofs.Ytmelfdajhnbnlaa
open Go.RowKit
set_option linter.unusedVariables false

theorem clamp_any (n lo hi : Int) (w : World) :
    Calls Try.prog 6 #[.int .i64 n, .int .i64 lo, .int .i64 hi] w fun e w' => e = .returned (.int .i64 (clampV n lo hi)) ∧ w = w' := by
  by_cases h1 : n < lo
  · have e : clampV n lo hi = lo := by unfold clampV; rw [if_pos h1]
    rw [e]; clear e
    go_enter Try.func6, Try.ntmps6
    go_wp2
    go_ret
    exact ⟨rfl, rfl⟩
  · by_cases h2 : hi < n
    · have e : clampV n lo hi = hi := by unfold clampV; rw [if_neg h1, if_pos h2]
      rw [e]; clear e
      go_enter Try.func6, Try.ntmps6
      go_wp2
      go_ret
      exact ⟨rfl, rfl⟩
    · have e : clampV n lo hi = n := by unfold clampV; rw [if_neg h1, if_neg h2]
      rw [e]; clear e
      go_enter Try.func6, Try.ntmps6
      go_wp2
      go_ret
      exact ⟨rfl, rfl⟩

end Go.Proofs.Ytmelfdajhnbnlaa
