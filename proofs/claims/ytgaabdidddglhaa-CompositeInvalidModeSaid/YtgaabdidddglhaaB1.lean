import Derived.Test.YtgaabdidddglhaaEnv
import Derived.Test.YtgaabdidddglhaaBlNum
import Derived.Test.YtgaabdidddglhaaClamp
import Derived.WalkKit
import Derived.WalkSpells
import Derived.WalkLawsBesides
import Derived.Lib.Hide
import Derived.Below
import Derived.Deep.QuietTactic
import Derived.BigQuiet
import Derived.Deep.RegionHeld3
import Derived.Deep.DrawnRows
import Derived.Deep.DeepFit
import Derived.IntWalk
namespace Go.Proofs.Ytgaabdidddglhaa
open Go.RowKit
set_option linter.unusedVariables false
set_option linter.unusedSimpArgs false
attribute [local go_sem ↓] Go.wp_at_zero Go.wp_at_succ
attribute [local go_sem] rhoF_tmp rhoF_const rhoF_global rhoF_func

set_option maxHeartbeats 1000000 in
theorem validM_any (m : Int) (w : World) : Calls Try.prog 34 #[.int .i64 m] w fun e w' => e = .returned (.bool (decide (1 ≤ m) && decide (m ≤ 13))) ∧ w = w' := by
  by_cases h0 : 1 ≤ m
  · by_cases h1 : m ≤ 13
    · rw [show (decide (1 ≤ m) && decide (m ≤ 13)) = true by simp [h0, h1]]
      go_enter Try.func34, Try.ntmps34
      go_wp2
      go_ret
      exact ⟨rfl, rfl⟩
    · rw [show (decide (1 ≤ m) && decide (m ≤ 13)) = false by simp [h1]]
      go_enter Try.func34, Try.ntmps34
      go_wp2
      go_ret
      exact ⟨rfl, rfl⟩
  · rw [show (decide (1 ≤ m) && decide (m ≤ 13)) = false by simp [h0]]
    go_enter Try.func34, Try.ntmps34
    go_wp2
    go_ret
    exact ⟨rfl, rfl⟩

set_option maxHeartbeats 1000000 in
theorem isSep_any (m : Int) (w : World) : Calls Try.prog 35 #[.int .i64 m] w fun e w' => e = .returned (.bool (decide (1 ≤ m) && decide (m ≤ 9))) ∧ w = w' := by
  by_cases h0 : 1 ≤ m
  · by_cases h1 : m ≤ 9
    · rw [show (decide (1 ≤ m) && decide (m ≤ 9)) = true by simp [h0, h1]]
      go_enter Try.func35, Try.ntmps35
      go_wp2
      go_ret
      exact ⟨rfl, rfl⟩
    · rw [show (decide (1 ≤ m) && decide (m ≤ 9)) = false by simp [h1]]
      go_enter Try.func35, Try.ntmps35
      go_wp2
      go_ret
      exact ⟨rfl, rfl⟩
  · rw [show (decide (1 ≤ m) && decide (m ≤ 9)) = false by simp [h0]]
    go_enter Try.func35, Try.ntmps35
    go_wp2
    go_ret
    exact ⟨rfl, rfl⟩

set_option maxHeartbeats 1000000 in
theorem rvalidM_any (m : Int) (w : World) : Calls Try.prog 23 #[.int .i64 m] w fun e w' => e = .returned (.bool (decide (1 ≤ m) && decide (m ≤ 13))) ∧ w = w' := by
  by_cases h0 : 1 ≤ m
  · by_cases h1 : m ≤ 13
    · rw [show (decide (1 ≤ m) && decide (m ≤ 13)) = true by simp [h0, h1]]
      go_enter Try.func23, Try.ntmps23
      go_wp2
      go_ret
      exact ⟨rfl, rfl⟩
    · rw [show (decide (1 ≤ m) && decide (m ≤ 13)) = false by simp [h1]]
      go_enter Try.func23, Try.ntmps23
      go_wp2
      go_ret
      exact ⟨rfl, rfl⟩
  · rw [show (decide (1 ≤ m) && decide (m ≤ 13)) = false by simp [h0]]
    go_enter Try.func23, Try.ntmps23
    go_wp2
    go_ret
    exact ⟨rfl, rfl⟩

def divN (n : Int) : Int := (clampV n 0 65025 + 127) / 255
theorem divN_bd (n : Int) : 0 ≤ divN n ∧ divN n ≤ 255 := by
  unfold divN
  obtain ⟨a, b⟩ := clampV_bd n 0 65025 (by omega)
  omega
theorem divNorm8_any (n : Int) (w : World) :
    Calls Try.prog 27 #[.int .i64 n] w fun e w' => e = .returned (.int .u8 (divN n)) ∧ w = w' := by
  obtain ⟨h0, h1⟩ := clampV_bd n 0 65025 (by omega)
  go_enter Try.func27, Try.ntmps27
  go_wp2_with (go_at_call 33; (with_reducible refine (clamp_any n 0 65025 _).mono ?_); rintro e w9 ⟨rfl, rfl⟩)
  go_ret
  exact ⟨rfl, rfl⟩

def unc (s sa d da : Int) : Int := s * (255 - da) + d * (255 - sa)
theorem unc_bd {s sa d da : Int} (h : 0 ≤ s ∧ s ≤ 255 ∧ 0 ≤ sa ∧ sa ≤ 255 ∧ 0 ≤ d ∧ d ≤ 255 ∧ 0 ≤ da ∧ da ≤ 255) : 0 ≤ s * (255 - da) ∧ s * (255 - da) ≤ 65025 ∧ 0 ≤ d * (255 - sa) ∧ d * (255 - sa) ≤ 65025 ∧ 0 ≤ unc s sa d da ∧ unc s sa d da ≤ 130050 := by
  obtain ⟨h0, h1, h2, h3, h4, h5, h6, h7⟩ := h
  have a0 : 0 ≤ s * (255 - da) := Int.mul_nonneg h0 (by omega)
  have a1 : s * (255 - da) ≤ 255 * 255 := Int.mul_le_mul h1 (by omega) (by omega) (by omega)
  have b0 : 0 ≤ d * (255 - sa) := Int.mul_nonneg h4 (by omega)
  have b1 : d * (255 - sa) ≤ 255 * 255 := Int.mul_le_mul h5 (by omega) (by omega) (by omega)
  unfold unc
  omega
set_option maxHeartbeats 1000000 in
theorem unc_any (s sa d da : Int) (h : 0 ≤ s ∧ s ≤ 255 ∧ 0 ≤ sa ∧ sa ≤ 255 ∧ 0 ≤ d ∧ d ≤ 255 ∧ 0 ≤ da ∧ da ≤ 255) (w : World) :
    Calls Try.prog 38 #[.int .i64 s, .int .i64 sa, .int .i64 d, .int .i64 da] w fun e w' => e = .returned (.int .i64 (unc s sa d da)) ∧ w = w' := by
  obtain ⟨a0, a1, b0, b1, c0, c1⟩ := unc_bd h
  unfold unc at c0 c1 ⊢
  go_enter Try.func38, Try.ntmps38
  go_wp2
  go_ret
  exact ⟨rfl, rfl⟩

set_option maxHeartbeats 1000000 in
theorem light_any (b : Bool) (s sa d da : Int) (h : 0 ≤ s ∧ s ≤ sa ∧ sa ≤ 255 ∧ 0 ≤ d ∧ d ≤ da ∧ da ≤ 255) (w : World) :
    Calls Try.prog 56 #[.bool b, .int .i64 s, .int .i64 sa, .int .i64 d, .int .i64 da] w fun e w' => e = .returned (.int .i64 (lgt b s sa d da)) ∧ w = w' := by
  obtain ⟨p1, p2, p3, p4, p5, p6, p7⟩ := prods h
  obtain ⟨h0, h1, h2, h3, h4, h5⟩ := h
  have m1 : 0 ≤ s * da := by omega
  have m2 : s * da ≤ 65025 := by omega
  have m3 : 0 ≤ d * sa := by omega
  have m4 : d * sa ≤ 65025 := by omega
  have m5 : s * d ≤ 65025 := by omega
  have m6 : 0 ≤ sa * da := by omega
  have m7 : 0 ≤ 2 * s * d := by omega
  have m8 : 2 * s * d ≤ 130050 := by omega
  have m9 : 0 ≤ 2 * (da - d) * (sa - s) := by omega
  have m10 : 2 * (da - d) * (sa - s) ≤ 130050 := by omega
  clear p6 p7 p4
  cases b with
  | true =>
    rw [show lgt true s sa d da = 2 * s * d by simp [lgt]]
    go_enter Try.func56, Try.ntmps56
    go_wp2
    go_ret
    exact ⟨rfl, rfl⟩
  | false =>
    rw [show lgt false s sa d da = sa * da - 2 * (da - d) * (sa - s) by simp [lgt]]
    go_enter Try.func56, Try.ntmps56
    go_wp2
    go_ret
    exact ⟨rfl, rfl⟩

set_option maxHeartbeats 1000000 in
theorem rhard_any (b : Bool) (s sa d da : Int) (h : 0 ≤ s ∧ s ≤ sa ∧ sa ≤ 255 ∧ 0 ≤ d ∧ d ≤ da ∧ da ≤ 255) (w : World) :
    Calls Try.prog 65 #[.bool b, .int .i64 s, .int .i64 sa, .int .i64 d, .int .i64 da] w fun e w' => e = .returned (.int .i64 (lgt b s sa d da)) ∧ w = w' := by
  obtain ⟨p1, p2, p3, p4, p5, p6, p7⟩ := prods h
  obtain ⟨h0, h1, h2, h3, h4, h5⟩ := h
  have m1 : 0 ≤ s * da := by omega
  have m2 : s * da ≤ 65025 := by omega
  have m3 : 0 ≤ d * sa := by omega
  have m4 : d * sa ≤ 65025 := by omega
  have m5 : s * d ≤ 65025 := by omega
  have m6 : 0 ≤ sa * da := by omega
  have m7 : 0 ≤ 2 * s * d := by omega
  have m8 : 2 * s * d ≤ 130050 := by omega
  have m9 : 0 ≤ 2 * (da - d) * (sa - s) := by omega
  have m10 : 2 * (da - d) * (sa - s) ≤ 130050 := by omega
  clear p6 p7 p4
  cases b with
  | true =>
    rw [show lgt true s sa d da = 2 * s * d by simp [lgt]]
    go_enter Try.func65, Try.ntmps65
    go_wp2
    go_ret
    exact ⟨rfl, rfl⟩
  | false =>
    rw [show lgt false s sa d da = sa * da - 2 * (da - d) * (sa - s) by simp [lgt]]
    go_enter Try.func65, Try.ntmps65
    go_wp2
    go_ret
    exact ⟨rfl, rfl⟩

def mayB (s sa : Int) : Bool := decide (0 ≤ s) && (decide (s ≤ sa) && decide (sa ≤ 255))
set_option maxHeartbeats 1000000 in
theorem rmay_any (s sa : Int) (w : World) : Calls Try.prog 64 #[.int .i64 s, .int .i64 sa] w fun e w' => e = .returned (.bool (mayB s sa)) ∧ w = w' := by
  by_cases h0 : 0 ≤ s
  · by_cases h1 : s ≤ sa
    · by_cases h2 : sa ≤ 255
      · rw [show mayB s sa = true by simp [mayB, h0, h1, h2]]
        go_enter Try.func64, Try.ntmps64
        go_wp2
        go_ret
        exact ⟨rfl, rfl⟩
      · rw [show mayB s sa = false by simp [mayB, h2]]
        go_enter Try.func64, Try.ntmps64
        go_wp2
        go_ret
        exact ⟨rfl, rfl⟩
    · rw [show mayB s sa = false by simp [mayB, h1]]
      go_enter Try.func64, Try.ntmps64
      go_wp2
      go_ret
      exact ⟨rfl, rfl⟩
  · rw [show mayB s sa = false by simp [mayB, h0]]
    go_enter Try.func64, Try.ntmps64
    go_wp2
    go_ret
    exact ⟨rfl, rfl⟩
end Go.Proofs.Ytgaabdidddglhaa
