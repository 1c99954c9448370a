import Derived.Test.YthofacdiajhjmaaSq
import Derived.Test.YthofacdiajhjmaaImc
import Derived.WalkKit
import Derived.WalkSpells
import Derived.WalkLawsBesides
import Derived.Lib.Hide
import Derived.Deep.QuietTactic
import Derived.BigQuiet
namespace Go.Proofs.Ythofacdiajhjmaa
open Go.RowKit
set_option linter.unusedVariables false
def clampV (n lo hi : Int) : Int := if n < lo then lo else if hi < n then hi else n
def modV (a b : Int) : Int := if b ≤ 0 then 0 else a % b

theorem clamp_any (n lo hi : Int) (w : World) :
    Calls Try.prog 28 #[.int .i64 n, .int .i64 lo, .int .i64 hi] w fun e w' => e = .returned (.int .i64 (clampV n lo hi)) ∧ w = w' := by
  by_cases h1 : n < lo
  · have e : clampV n lo hi = lo := by unfold clampV; rw [if_pos h1]
    rw [e]; clear e
    go_enter Try.func28, Try.ntmps28
    go_wp2
    go_ret
    exact ⟨rfl, rfl⟩
  · by_cases h2 : hi < n
    · have e : clampV n lo hi = hi := by unfold clampV; rw [if_neg h1, if_pos h2]
      rw [e]; clear e
      go_enter Try.func28, Try.ntmps28
      go_wp2
      go_ret
      exact ⟨rfl, rfl⟩
    · have e : clampV n lo hi = n := by unfold clampV; rw [if_neg h1, if_neg h2]
      rw [e]; clear e
      go_enter Try.func28, Try.ntmps28
      go_wp2
      go_ret
      exact ⟨rfl, rfl⟩

theorem mod_any (a b : Int) (a0 : -9223372036854775808 ≤ a) (a1 : a ≤ 9223372036854775807) (b1 : b ≤ 9223372036854775807) (w : World) :
    Calls Try.prog 27 #[.int .i64 a, .int .i64 b] w fun e w' => e = .returned (.int .i64 (modV a b)) ∧ w = w' := by
  by_cases h1 : b ≤ 0
  · go_enter Try.func27, Try.ntmps27
    go_wp2
    go_ret
    exact ⟨by simp [modV, h1], rfl⟩
  · have e : modV a b = a % b := by simp [modV, h1]
    rw [e]
    clear e
    have m0 := Int.emod_nonneg a (b := b) (by omega)
    have m1 := Int.emod_lt_of_pos a (b := b) (by omega)
    have t := Int.tmod_eq_emod (a := a) (b := b)
    have hb : (b == 0) = false := by simp; omega
    have hn : (b.natAbs : Int) = b := by omega
    by_cases h2 : 0 ≤ a
    · go_enter Try.func27, Try.ntmps27
      clear t
      go_wp2
      go_ret
      exact ⟨rfl, rfl⟩
    · by_cases h3 : a.tmod b < 0
      · have t2 : a.tmod b = a % b - b := by rw [t] at h3 ⊢; split <;> simp_all <;> omega
        rw [t2] at h3
        clear t
        go_enter Try.func27, Try.ntmps27
        go_wp2
        go_ret
        exact ⟨by congr 2, rfl⟩
      · have t2 : a.tmod b = a % b := by rw [t] at h3 ⊢; split <;> simp_all <;> omega
        rw [t2] at h3
        clear t
        go_enter Try.func27, Try.ntmps27
        go_wp2
        go_ret
        exact ⟨rfl, rfl⟩

theorem mulNorm8_any (a b : Int) (ha : 0 ≤ a) (ha' : a ≤ 255) (hb : 0 ≤ b) (hb' : b ≤ 255) (w : World) :
    Calls Try.prog 25 #[.int .u8 a, .int .u8 b] w fun e w' => e = .returned (.int .u8 ((a * b + 127) / 255)) ∧ w = w' := by
  have h0 : 0 ≤ a * b := Int.mul_nonneg ha hb
  have h1 : a * b ≤ 65025 := by
    have := Int.mul_le_mul ha' hb' hb (by omega : (0 : Int) ≤ 255)
    omega
  go_enter Try.func25, Try.ntmps25
  go_wp2
  go_ret
  exact ⟨rfl, rfl⟩

def divN (n : Int) : Int := (clampV n 0 65025 + 127) / 255
theorem clampV_bd (n lo hi : Int) (h : lo ≤ hi) : lo ≤ clampV n lo hi ∧ clampV n lo hi ≤ hi := by
  unfold clampV
  split
  · omega
  · split <;> omega
theorem divN_bd (n : Int) : 0 ≤ divN n ∧ divN n ≤ 255 := by
  unfold divN
  obtain ⟨a, b⟩ := clampV_bd n 0 65025 (by omega)
  omega

theorem divNorm8_any (n : Int) (w : World) :
    Calls Try.prog 26 #[.int .i64 n] w fun e w' => e = .returned (.int .u8 (divN n)) ∧ w = w' := by
  obtain ⟨h0, h1⟩ := clampV_bd n 0 65025 (by omega)
  go_enter Try.func26, Try.ntmps26
  go_wp2_with (go_at_call 28; (with_reducible refine (clamp_any n 0 65025 _).mono ?_); rintro e w' ⟨rfl, rfl⟩)
  go_ret
  exact ⟨rfl, rfl⟩

set_option maxHeartbeats 800000 in
theorem example_any (w : World) :
    Calls Try.prog 11 #[] w fun e w' => e = .returned (.bool true) ∧ ∃ n, w' = w.drewN n := by
  have c1 : clampV 3 5 4 = 5 := by decide
  have c2 : modV (-1) 5 = 4 := by decide
  have c3 : divN 300 = 1 := by decide
  have c4 : mdrV 5 1 2 = 3 := by decide
  have c5 : mdrV (-5) 1 2 = -3 := by decide
  have c6 : mdrV 3 5 2 = 8 := by decide
  have c7 : mdrB 3 5 2 = true := by decide
  have c8 : mdrB 1 1 0 = false := by decide
  have m1 := fun w => mulDivRound_any 3 5 2 (by omega) (by omega) (by omega) (by omega) (by omega) (by omega) w
  have m2 := fun w => mulDivRound_any 1 1 0 (by omega) (by omega) (by omega) (by omega) (by omega) (by omega) w
  have d1 := fun w => divRound_any 5 2 (by omega) (by omega) (by omega) (by omega) w
  have d2 := fun w => divRound_any (-5) 2 (by omega) (by omega) (by omega) (by omega) w
  have n1 := fun w => mulNorm8_any 128 255 (by omega) (by omega) (by omega) (by omega) w
  have n2 := fun w => mulNorm8_any 128 128 (by omega) (by omega) (by omega) (by omega) w
  have s1 := fun w => sqrt_any 24 4 (by omega) (by omega) (by omega) (by omega) (by omega) w
  have v1 := fun w => divNorm8_any 300 w
  have o1 := fun w => mod_any (-1) 5 (by omega) (by omega) (by omega) w
  have p1 := fun w => clamp_any 3 5 4 w
  rw [c4] at d1; rw [c5] at d2; rw [c6, c7] at m1; rw [c8] at m2; rw [c3] at v1; rw [c2] at o1; rw [c1] at p1
  clear c1 c2 c3 c4 c5 c6 c7 c8
  go_enter Try.func11, Try.ntmps11
  go_wp2_with (first | (go_at_call 5; first | ((with_reducible refine (m1 _).mono ?_); rintro e w' ⟨rfl, nd, rfl⟩) | ((with_reducible refine (m2 _).mono ?_); rintro e w' ⟨rfl, nd, rfl⟩)) | (go_at_call 9; first | ((with_reducible refine (d1 _).mono ?_); rintro e w' ⟨rfl, nd, rfl⟩) | ((with_reducible refine (d2 _).mono ?_); rintro e w' ⟨rfl, nd, rfl⟩)) | (go_at_call 25; first | ((with_reducible refine (n1 _).mono ?_); rintro e w' ⟨rfl, rfl⟩) | ((with_reducible refine (n2 _).mono ?_); rintro e w' ⟨rfl, rfl⟩)) | (go_at_call 7; first | ((with_reducible refine (s1 _).mono ?_); rintro e w' ⟨rfl, rfl⟩)) | (go_at_call 26; first | ((with_reducible refine (v1 _).mono ?_); rintro e w' ⟨rfl, rfl⟩)) | (go_at_call 27; first | ((with_reducible refine (o1 _).mono ?_); rintro e w' ⟨rfl, rfl⟩)) | (go_at_call 28; first | ((with_reducible refine (p1 _).mono ?_); rintro e w' ⟨rfl, rfl⟩)))
  go_ret
  exact ⟨rfl, _, rfl⟩
end Go.Proofs.Ythofacdiajhjmaa
