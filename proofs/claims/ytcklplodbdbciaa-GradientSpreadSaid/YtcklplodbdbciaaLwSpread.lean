import Derived.Test.YtcklplodbdbciaaG4
import Derived.Test.YtcklplodbdbciaaSpNum
import Derived.WalkKit
import Derived.WalkSpells
import Derived.WalkLawsBesides
import Derived.Lib.Hide
import Derived.Below
import Derived.Deep.QuietTactic
import Derived.BigQuiet
import Derived.Deep.RegionHeld3
import Derived.Deep.DrawnRows
import Derived.Deep.DeepFit
import Derived.IntWalk
namespace Go.Proofs.Ytcklplodbdbciaa
open Go.RowKit
set_option linter.unusedVariables false
set_option linter.unusedSimpArgs false
attribute [local go_sem ↓] Go.wp_at_zero Go.wp_at_succ
attribute [local go_sem] rhoF_tmp rhoF_const rhoF_global rhoF_func

set_option maxHeartbeats 4000000 in
theorem gradSpread_w (t s : Int) (t0 : -9223372036854775808 ≤ t) (t1 : t ≤ 9223372036854775807) (w : World) :
    Calls Try.prog 3 #[.int .i64 t, .int .i64 s] w fun e w' => e = .returned (.bool true) ∧ Below w.heap.size w w' := by
  obtain ⟨b0, b1⟩ := spV_bd t s
  have c0 := fun w => spread_any t s t0 t1 w
  by_cases hA : t < -1152921504606846976
  · obtain ⟨n, hn⟩ : ∃ x, spV t s = x := ⟨_, rfl⟩
    rw [hn] at b0 b1 c0
    clear hn
    go_enter Try.func3, Try.ntmps3
    go_wp2_with (first | (go_at_call 7; first | ((with_reducible refine (c0 _).mono ?_); rintro e w9 ⟨rfl, rfl⟩)) | (go_at_call 8; (with_reducible refine (gex_any _).mono ?_); rintro e w8 ⟨rfl, hb⟩))
    go_ret
    exact ⟨rfl, hb⟩
  by_cases hB : 1152921504606846976 < t
  · obtain ⟨n, hn⟩ : ∃ x, spV t s = x := ⟨_, rfl⟩
    rw [hn] at b0 b1 c0
    clear hn
    go_enter Try.func3, Try.ntmps3
    go_wp2_with (first | (go_at_call 7; first | ((with_reducible refine (c0 _).mono ?_); rintro e w9 ⟨rfl, rfl⟩)) | (go_at_call 8; (with_reducible refine (gex_any _).mono ?_); rintro e w8 ⟨rfl, hb⟩))
    go_ret
    exact ⟨rfl, hb⟩
  by_cases h2 : s = 2
  · subst h2
    have c1 := fun w => spread_any (t + 65536) 2 (by omega) (by omega) w
    rw [sp_rep] at c1
    obtain ⟨n, hn⟩ : ∃ x, spV t 2 = x := ⟨_, rfl⟩
    rw [hn] at b0 b1 c0 c1
    clear hn
    go_enter Try.func3, Try.ntmps3
    go_wp2_with (first | (go_at_call 7; first | ((with_reducible refine (c0 _).mono ?_); rintro e w9 ⟨rfl, rfl⟩) | ((with_reducible refine (c1 _).mono ?_); rintro e w9 ⟨rfl, rfl⟩)) | (go_at_call 8; (with_reducible refine (gex_any _).mono ?_); rintro e w8 ⟨rfl, hb⟩))
    go_ret
    exact ⟨rfl, hb⟩
  have n2 : (s == 2) = false := by simpa using h2
  by_cases h3 : s = 3
  · subst h3
    have c1 := fun w => spread_any (-t) 3 (by omega) (by omega) w
    rw [sp_ref1] at c1
    have c2 := fun w => spread_any (t + 131072) 3 (by omega) (by omega) w
    rw [sp_ref2] at c2
    have c3 := fun w => spread_any (t + 65536) 3 (by omega) (by omega) w
    rw [sp_ref3] at c3
    obtain ⟨n, hn⟩ : ∃ x, spV t 3 = x := ⟨_, rfl⟩
    rw [hn] at b0 b1 c0 c1 c2 c3
    clear hn
    go_enter Try.func3, Try.ntmps3
    go_wp2_with (first | (go_at_call 7; first | ((with_reducible refine (c0 _).mono ?_); rintro e w9 ⟨rfl, rfl⟩) | ((with_reducible refine (c1 _).mono ?_); rintro e w9 ⟨rfl, rfl⟩) | ((with_reducible refine (c2 _).mono ?_); rintro e w9 ⟨rfl, rfl⟩) | ((with_reducible refine (c3 _).mono ?_); rintro e w9 ⟨rfl, rfl⟩)) | (go_at_call 8; (with_reducible refine (gex_any _).mono ?_); rintro e w8 ⟨rfl, hb⟩))
    go_ret
    exact ⟨rfl, hb⟩
  have n3 : (s == 3) = false := by simpa using h3
  by_cases h1 : s = 1
  · subst h1
    have c1 := fun w => spread_any (spV t 1) 1 (by omega) (by omega) w
    rw [sp_pad] at c1
    by_cases hC : t < 0
    · obtain ⟨n, hn⟩ : ∃ x, spV t 1 = x := ⟨_, rfl⟩
      rw [hn] at b0 b1 c0 c1
      clear hn
      go_enter Try.func3, Try.ntmps3
      go_wp2_with (first | (go_at_call 7; first | ((with_reducible refine (c0 _).mono ?_); rintro e w9 ⟨rfl, rfl⟩) | ((with_reducible refine (c1 _).mono ?_); rintro e w9 ⟨rfl, rfl⟩)) | (go_at_call 8; (with_reducible refine (gex_any _).mono ?_); rintro e w8 ⟨rfl, hb⟩))
      go_ret
      exact ⟨rfl, hb⟩
    by_cases hD : 65536 < t
    · obtain ⟨n, hn⟩ : ∃ x, spV t 1 = x := ⟨_, rfl⟩
      rw [hn] at b0 b1 c0 c1
      clear hn
      go_enter Try.func3, Try.ntmps3
      go_wp2_with (first | (go_at_call 7; first | ((with_reducible refine (c0 _).mono ?_); rintro e w9 ⟨rfl, rfl⟩) | ((with_reducible refine (c1 _).mono ?_); rintro e w9 ⟨rfl, rfl⟩)) | (go_at_call 8; (with_reducible refine (gex_any _).mono ?_); rintro e w8 ⟨rfl, hb⟩))
      go_ret
      exact ⟨rfl, hb⟩
    rw [sp_in t (by omega) (by omega)] at c0 c1 b0 b1
    clear c1
    go_enter Try.func3, Try.ntmps3
    go_wp2_with (first | (go_at_call 7; first | ((with_reducible refine (c0 _).mono ?_); rintro e w9 ⟨rfl, rfl⟩)) | (go_at_call 8; (with_reducible refine (gex_any _).mono ?_); rintro e w8 ⟨rfl, hb⟩))
    go_ret
    exact ⟨rfl, hb⟩
  · have n1 : (s == 1) = false := by simpa using h1
    obtain ⟨n, hn⟩ : ∃ x, spV t s = x := ⟨_, rfl⟩
    rw [hn] at b0 b1 c0
    clear hn h1 h2 h3
    have m1 : (s != 1) = true := by simp [bne, n1]
    have m2 : (s != 2) = true := by simp [bne, n2]
    have m3 : (s != 3) = true := by simp [bne, n3]
    go_enter Try.func3, Try.ntmps3
    go_wp2_with (first | (go_at_call 7; first | ((with_reducible refine (c0 _).mono ?_); rintro e w9 ⟨rfl, rfl⟩)) | (go_at_call 8; (with_reducible refine (gex_any _).mono ?_); rintro e w8 ⟨rfl, hb⟩))
    go_ret
    exact ⟨rfl, hb⟩
end Go.Proofs.Ytcklplodbdbciaa
