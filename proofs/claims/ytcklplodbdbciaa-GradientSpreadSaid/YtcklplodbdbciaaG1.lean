import Derived.Test.YtcklplodbdbciaaEnv
import Derived.Test.YtcklplodbdbciaaGradNum0
import Derived.WalkKit
import Derived.WalkSpells
import Derived.WalkLawsBesides
import Derived.Lib.Hide
import Derived.Below
import Derived.Deep.QuietTactic
import Derived.BigQuiet
import Derived.Deep.RegionHeld3
import Derived.Deep.DrawnRows
import Derived.Deep.DeepFit
import Derived.IntWalk
namespace Go.Proofs.Ytcklplodbdbciaa
open Go.RowKit
set_option linter.unusedVariables false
set_option linter.unusedSimpArgs false
attribute [local go_sem ↓] Go.wp_at_zero Go.wp_at_succ
attribute [local go_sem] rhoF_tmp rhoF_const rhoF_global rhoF_func

set_option maxHeartbeats 1000000 in
theorem spread_any (t s : Int) (t0 : -9223372036854775808 ≤ t) (t1 : t ≤ 9223372036854775807) (w : World) :
    Calls Try.prog 7 #[.int .i64 t, .int .i64 s] w fun e w' => e = .returned (.int .i64 (spV t s)) ∧ w = w' := by
  by_cases h1 : s = 1
  · subst h1
    rw [show spV t 1 = clampV t 0 65536 by simp [spV]]
    have c := fun w => clamp_any t 0 65536 w
    go_enter Try.func7, Try.ntmps7
    go_wp2_with (go_at_call 15; (with_reducible refine (c _).mono ?_); rintro e w9 ⟨rfl, rfl⟩)
    go_ret
    exact ⟨rfl, rfl⟩
  have n1 : (s == 1) = false := by simpa using h1
  by_cases h2 : s = 2
  · subst h2
    rw [show spV t 2 = t % 65536 by simp [spV]]
    have c := fun w => mod_any t 65536 t0 t1 (by omega) w
    rw [show modV t 65536 = t % 65536 by simp [modV]] at c
    go_enter Try.func7, Try.ntmps7
    go_wp2_with (go_at_call 16; (with_reducible refine (c _).mono ?_); rintro e w9 ⟨rfl, rfl⟩)
    go_ret
    exact ⟨rfl, rfl⟩
  have n2 : (s == 2) = false := by simpa using h2
  by_cases h3 : s = 3
  · subst h3
    have c := fun w => mod_any t 131072 t0 t1 (by omega) w
    rw [show modV t 131072 = t % 131072 by simp [modV]] at c
    rw [show spV t 3 = min (t % 131072) (131072 - t % 131072) by simp [spV]]
    obtain ⟨m, hm⟩ : ∃ x, t % 131072 = x := ⟨_, rfl⟩
    have m0 : 0 ≤ m := by omega
    have m1 : m ≤ 131071 := by omega
    rw [hm] at c ⊢
    clear hm
    obtain ⟨r, hr⟩ : ∃ x, min m (131072 - m) = x := ⟨_, rfl⟩
    have g : (if 131072 - m < m then 131072 - m else m) = r := by rw [← hr]; omega
    rw [hr]
    go_enter Try.func7, Try.ntmps7
    go_wp2_with (go_at_call 16; (with_reducible refine (c _).mono ?_); rintro e w9 ⟨rfl, rfl⟩)
    go_ret
    exact ⟨rfl, rfl⟩
  · have n3 : (s == 3) = false := by simpa using h3
    rw [show spV t s = 0 by simp [spV, h1, h2, h3]]
    clear h1 h2 h3
    go_enter Try.func7, Try.ntmps7
    go_wp2
    go_ret
    exact ⟨rfl, rfl⟩

def vOff (n : Int) : Bool := decide (0 ≤ n) && decide (n ≤ 65536)
set_option maxHeartbeats 1000000 in
theorem vOff_any (n : Int) (w : World) :
    Calls Try.prog 18 #[.int .i64 n] w fun e w' => e = .returned (.bool (vOff n)) ∧ w' = w := by
  by_cases h1 : 0 ≤ n
  · by_cases h2 : n ≤ 65536
    · rw [show vOff n = true by simp [vOff, h1, h2]]
      go_enter Try.func18, Try.ntmps18
      go_wp2
      go_ret
      exact ⟨rfl, rfl⟩
    · rw [show vOff n = false by simp [vOff, h2]]
      go_enter Try.func18, Try.ntmps18
      go_wp2
      go_ret
      exact ⟨rfl, rfl⟩
  · rw [show vOff n = false by simp [vOff, h1]]
    go_enter Try.func18, Try.ntmps18
    go_wp2
    go_ret
    exact ⟨rfl, rfl⟩
end Go.Proofs.Ytcklplodbdbciaa
