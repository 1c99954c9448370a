import Derived.Test.YtedhjcjjalabdaaW33
import Derived.Test.YtedhjcjjalabdaaWr
import Derived.WalkKit
import Derived.WalkSpells
import Derived.WalkLawsBesides
import Derived.Lib.Hide
import Derived.Below
import Derived.Deep.QuietTactic
import Derived.BigQuiet
import Derived.Deep.RegionHeld3
import Derived.Deep.DrawnRows
import Derived.Deep.DeepFit
import Derived.IntWalk
namespace Go.Proofs.Ytedhjcjjalabdaa
open Go.RowKit
set_option linter.unusedVariables false
set_option linter.unusedSimpArgs false
attribute [local go_sem ↓] Go.wp_at_zero Go.wp_at_succ

set_option maxHeartbeats 2000000 in
theorem example_any (w : World) :
    Calls Try.prog 6 #[] w fun e w' => e = .returned (.bool true) ∧ Below w.heap.size w w' := by
  have c1 := fun w => wrap_any (-1) 3 3 (by omega) (by omega) (by omega) (by omega) w
  have c2 := fun w => wrap_any 4 3 3 (by omega) (by omega) (by omega) (by omega) w
  rw [show wrapV (-1) 3 3 = 0 by decide, show wrapOk (-1) 3 3 = true by decide] at c1
  rw [show wrapV 4 3 3 = 1 by decide, show wrapOk 4 3 3 = true by decide] at c2
  go_enter Try.func6, Try.ntmps6
  go_wp2_with (first | (go_at_call 4; (with_reducible refine (c1 _).mono ?_); rintro e w9 ⟨rfl, rfl⟩) | (go_at_call 4; (with_reducible refine (c2 _).mono ?_); rintro e w9 ⟨rfl, rfl⟩) | (go_at_call 12; (with_reducible refine (ivalid1 w.heap.size _ (by go_simp) (by go_simp) (by go_simp) (by go_simp)).mono ?_); rintro e w9 ⟨rfl, hb9⟩))
  go_ret
  refine ⟨rfl, bel_step ?_ hb9⟩
  repeat (first | with_reducible exact Below.refl _ _ | fail | with_reducible apply below_drewN | with_reducible apply Below.drew | (with_reducible refine Below.alloc ?_ (by first | (simp; done) | (simp; omega) | omega) _) | (with_reducible refine Below.setCell ?_ (by first | (simp; done) | (simp; omega) | omega) _))

set_option maxHeartbeats 2000000 in
theorem imageWrapIndex_w (i n s : Int) (i0 : -9223372036854775808 ≤ i) (i1 : i ≤ 9223372036854775807) (n0 : -9223372036854775808 ≤ n) (n1 : n ≤ 9223372036854775807) (w : World) :
    Calls Try.prog 3 #[.int .i64 i, .int .i64 n, .int .i64 s] w fun e w' => e = .returned (.bool true) ∧ Below w.heap.size w w' := by
  have c1 := fun w => wrap_any i n s i0 i1 n0 n1 w
  have c2 := fun w => rwrap_any i n s i0 i1 n0 n1 w
  go_enter Try.func3, Try.ntmps3
  go_wp2_with (first | (go_at_call 4; (with_reducible refine (c1 _).mono ?_); rintro e w9 ⟨rfl, rfl⟩) | (go_at_call 5; (with_reducible refine (c2 _).mono ?_); rintro e w9 ⟨rfl, rfl⟩) | (go_at_call 6; (with_reducible refine (example_any _).mono ?_); rintro e w9 ⟨rfl, hb9⟩))
  go_ret
  exact ⟨rfl, hb9⟩
end Go.Proofs.Ytedhjcjjalabdaa
