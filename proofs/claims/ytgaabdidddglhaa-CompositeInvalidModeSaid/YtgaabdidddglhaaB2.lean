import Derived.Test.YtgaabdidddglhaaB1
import Derived.WalkKit
import Derived.WalkSpells
import Derived.WalkLawsBesides
import Derived.Lib.Hide
import Derived.Below
import Derived.Deep.QuietTactic
import Derived.BigQuiet
import Derived.Deep.RegionHeld3
import Derived.Deep.DrawnRows
import Derived.Deep.DeepFit
import Derived.IntWalk
namespace Go.Proofs.Ytgaabdidddglhaa
open Go.RowKit
set_option linter.unusedVariables false
set_option linter.unusedSimpArgs false
attribute [local go_sem ↓] Go.wp_at_zero Go.wp_at_succ
attribute [local go_sem] rhoF_tmp rhoF_const rhoF_global rhoF_func

set_option maxHeartbeats 4000000 in
theorem term_any_in (m s sa d da : Int) (h : 0 ≤ s ∧ s ≤ sa ∧ sa ≤ 255 ∧ 0 ≤ d ∧ d ≤ da ∧ da ≤ 255) (w : World) :
    Calls Try.prog 46 #[.int .i64 m, .int .i64 s, .int .i64 sa, .int .i64 d, .int .i64 da] w fun e w' => e = .returned (.int .i64 (trm m s sa d da)) ∧ w = w' := by
  have cl1 := fun w => light_any (decide (2 * d ≤ da)) s sa d da h w
  have cl2 := fun w => light_any (decide (2 * s ≤ sa)) s sa d da h w
  obtain ⟨p1, p2, p3, p4, p5, p6, p7⟩ := prods h
  obtain ⟨h0, h1, h2, h3, h4, h5⟩ := h
  have m1 : 0 ≤ s * da := by omega
  have m2 : s * da ≤ 65025 := by omega
  have m3 : 0 ≤ d * sa := by omega
  have m4 : d * sa ≤ 65025 := by omega
  have m5 : s * d ≤ 65025 := by omega
  have m6 : 0 ≤ sa * da := by omega
  have m7 : 0 ≤ 2 * s * d := by omega
  have m8 : 2 * s * d ≤ 130050 := by omega
  have m9 : 0 ≤ 2 * (da - d) * (sa - s) := by omega
  have m10 : 2 * (da - d) * (sa - s) ≤ 130050 := by omega
  clear p6 p7 p4
  by_cases k1 : m = 1
  · subst k1
    rw [show trm 1 s sa d da = s * da by simp [trm]]
    go_enter Try.func46, Try.ntmps46
    go_wp2_with (first | (go_at_call 56; (with_reducible refine (cl1 _).mono ?_); rintro e w9 ⟨rfl, rfl⟩) | (go_at_call 56; (with_reducible refine (cl2 _).mono ?_); rintro e w9 ⟨rfl, rfl⟩))
    go_ret
    exact ⟨rfl, rfl⟩
  have n1 : (m == 1) = false := by simpa using k1
  by_cases k2 : m = 2
  · subst k2
    rw [show trm 2 s sa d da = s * d by simp [trm]]
    go_enter Try.func46, Try.ntmps46
    go_wp2_with (first | (go_at_call 56; (with_reducible refine (cl1 _).mono ?_); rintro e w9 ⟨rfl, rfl⟩) | (go_at_call 56; (with_reducible refine (cl2 _).mono ?_); rintro e w9 ⟨rfl, rfl⟩))
    go_ret
    exact ⟨rfl, rfl⟩
  have n2 : (m == 2) = false := by simpa using k2
  by_cases k3 : m = 3
  · subst k3
    rw [show trm 3 s sa d da = s * da + d * sa - s * d by simp [trm]]
    go_enter Try.func46, Try.ntmps46
    go_wp2_with (first | (go_at_call 56; (with_reducible refine (cl1 _).mono ?_); rintro e w9 ⟨rfl, rfl⟩) | (go_at_call 56; (with_reducible refine (cl2 _).mono ?_); rintro e w9 ⟨rfl, rfl⟩))
    go_ret
    exact ⟨rfl, rfl⟩
  have n3 : (m == 3) = false := by simpa using k3
  by_cases k4 : m = 4
  · subst k4
    rw [show trm 4 s sa d da = lgt (decide (2 * d ≤ da)) s sa d da by simp [trm]]
    go_enter Try.func46, Try.ntmps46
    go_wp2_with (first | (go_at_call 56; (with_reducible refine (cl1 _).mono ?_); rintro e w9 ⟨rfl, rfl⟩) | (go_at_call 56; (with_reducible refine (cl2 _).mono ?_); rintro e w9 ⟨rfl, rfl⟩))
    go_ret
    exact ⟨rfl, rfl⟩
  have n4 : (m == 4) = false := by simpa using k4
  by_cases k9 : m = 9
  · subst k9
    rw [show trm 9 s sa d da = lgt (decide (2 * s ≤ sa)) s sa d da by simp [trm]]
    go_enter Try.func46, Try.ntmps46
    go_wp2_with (first | (go_at_call 56; (with_reducible refine (cl1 _).mono ?_); rintro e w9 ⟨rfl, rfl⟩) | (go_at_call 56; (with_reducible refine (cl2 _).mono ?_); rintro e w9 ⟨rfl, rfl⟩))
    go_ret
    exact ⟨rfl, rfl⟩
  have n9 : (m == 9) = false := by simpa using k9
  by_cases k5 : m = 5
  · subst k5
    rw [show trm 5 s sa d da = min (s * da) (d * sa) by simp [trm]]
    obtain ⟨u, hu⟩ : ∃ x, min (s * da) (d * sa) = x := ⟨_, rfl⟩
    obtain ⟨v, hv⟩ : ∃ x, max (s * da) (d * sa) = x := ⟨_, rfl⟩
    have gu : (if d * sa < s * da then d * sa else s * da) = u := by rw [← hu]; omega
    have gv : (if s * da < d * sa then d * sa else s * da) = v := by rw [← hv]; omega
    have u0 : 0 ≤ u := by omega
    have u1 : u ≤ 65025 := by omega
    have v0 : 0 ≤ v := by omega
    have v1 : v ≤ 65025 := by omega
    rw [hu]
    clear gv hv
    go_enter Try.func46, Try.ntmps46
    go_wp2_with (first | (go_at_call 56; (with_reducible refine (cl1 _).mono ?_); rintro e w9 ⟨rfl, rfl⟩) | (go_at_call 56; (with_reducible refine (cl2 _).mono ?_); rintro e w9 ⟨rfl, rfl⟩))
    go_ret
    exact ⟨rfl, rfl⟩
  have n5 : (m == 5) = false := by simpa using k5
  by_cases k6 : m = 6
  · subst k6
    rw [show trm 6 s sa d da = max (s * da) (d * sa) by simp [trm]]
    obtain ⟨u, hu⟩ : ∃ x, min (s * da) (d * sa) = x := ⟨_, rfl⟩
    obtain ⟨v, hv⟩ : ∃ x, max (s * da) (d * sa) = x := ⟨_, rfl⟩
    have gu : (if d * sa < s * da then d * sa else s * da) = u := by rw [← hu]; omega
    have gv : (if s * da < d * sa then d * sa else s * da) = v := by rw [← hv]; omega
    have u0 : 0 ≤ u := by omega
    have u1 : u ≤ 65025 := by omega
    have v0 : 0 ≤ v := by omega
    have v1 : v ≤ 65025 := by omega
    rw [hv]
    clear gu hu
    go_enter Try.func46, Try.ntmps46
    go_wp2_with (first | (go_at_call 56; (with_reducible refine (cl1 _).mono ?_); rintro e w9 ⟨rfl, rfl⟩) | (go_at_call 56; (with_reducible refine (cl2 _).mono ?_); rintro e w9 ⟨rfl, rfl⟩))
    go_ret
    exact ⟨rfl, rfl⟩
  have n6 : (m == 6) = false := by simpa using k6
  by_cases k7 : m = 7
  · subst k7
    rw [show trm 7 s sa d da = max (s * da) (d * sa) - min (s * da) (d * sa) by simp [trm]]
    obtain ⟨u, hu⟩ : ∃ x, min (s * da) (d * sa) = x := ⟨_, rfl⟩
    obtain ⟨v, hv⟩ : ∃ x, max (s * da) (d * sa) = x := ⟨_, rfl⟩
    have gu : (if d * sa < s * da then d * sa else s * da) = u := by rw [← hu]; omega
    have gv : (if s * da < d * sa then d * sa else s * da) = v := by rw [← hv]; omega
    have u0 : 0 ≤ u := by omega
    have u1 : u ≤ 65025 := by omega
    have v0 : 0 ≤ v := by omega
    have v1 : v ≤ 65025 := by omega
    rw [hu, hv]
    go_enter Try.func46, Try.ntmps46
    go_wp2_with (first | (go_at_call 56; (with_reducible refine (cl1 _).mono ?_); rintro e w9 ⟨rfl, rfl⟩) | (go_at_call 56; (with_reducible refine (cl2 _).mono ?_); rintro e w9 ⟨rfl, rfl⟩))
    go_ret
    exact ⟨rfl, rfl⟩
  have n7 : (m == 7) = false := by simpa using k7
  by_cases k8 : m = 8
  · subst k8
    rw [show trm 8 s sa d da = s * da + d * sa - 2 * s * d by simp [trm]]
    go_enter Try.func46, Try.ntmps46
    go_wp2_with (first | (go_at_call 56; (with_reducible refine (cl1 _).mono ?_); rintro e w9 ⟨rfl, rfl⟩) | (go_at_call 56; (with_reducible refine (cl2 _).mono ?_); rintro e w9 ⟨rfl, rfl⟩))
    go_ret
    exact ⟨rfl, rfl⟩
  have n8 : (m == 8) = false := by simpa using k8
  rw [show trm m s sa d da = 0 by simp [trm, k1, k2, k3, k4, k9, k5, k6, k7, k8]]
  clear k1 k2 k3 k4 k9 k5 k6 k7 k8
  go_enter Try.func46, Try.ntmps46
  go_wp2_with (first | (go_at_call 56; (with_reducible refine (cl1 _).mono ?_); rintro e w9 ⟨rfl, rfl⟩) | (go_at_call 56; (with_reducible refine (cl2 _).mono ?_); rintro e w9 ⟨rfl, rfl⟩))
  go_ret
  exact ⟨rfl, rfl⟩

set_option maxHeartbeats 4000000 in
theorem term_any (m s sa d da : Int) (w : World) :
    Calls Try.prog 46 #[.int .i64 m, .int .i64 s, .int .i64 sa, .int .i64 d, .int .i64 da] w fun e w' => e = .returned (.int .i64 (termF m s sa d da)) ∧ w = w' := by
  by_cases a0 : s < 0
  · rw [termF_out (by omega)]
    go_enter Try.func46, Try.ntmps46
    go_wp2
    go_ret
    exact ⟨rfl, rfl⟩
  by_cases a1 : sa < s
  · rw [termF_out (by omega)]
    go_enter Try.func46, Try.ntmps46
    go_wp2
    go_ret
    exact ⟨rfl, rfl⟩
  by_cases a2 : 255 < sa
  · rw [termF_out (by omega)]
    go_enter Try.func46, Try.ntmps46
    go_wp2
    go_ret
    exact ⟨rfl, rfl⟩
  by_cases a3 : d < 0
  · rw [termF_out (by omega)]
    go_enter Try.func46, Try.ntmps46
    go_wp2
    go_ret
    exact ⟨rfl, rfl⟩
  by_cases a4 : da < d
  · rw [termF_out (by omega)]
    go_enter Try.func46, Try.ntmps46
    go_wp2
    go_ret
    exact ⟨rfl, rfl⟩
  by_cases a5 : 255 < da
  · rw [termF_out (by omega)]
    go_enter Try.func46, Try.ntmps46
    go_wp2
    go_ret
    exact ⟨rfl, rfl⟩
  have h : 0 ≤ s ∧ s ≤ sa ∧ sa ≤ 255 ∧ 0 ≤ d ∧ d ≤ da ∧ da ≤ 255 := by omega
  rw [termF_in h]
  exact term_any_in m s sa d da h w
end Go.Proofs.Ytgaabdidddglhaa
