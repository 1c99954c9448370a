import Derived.Test.YtdmbgdeffoiijaaEx
import Derived.WalkKit
import Derived.WalkSpells
import Derived.WalkLawsBesides
import Derived.Below
import Derived.OpenShut
import Derived.Lib.Hide
import Derived.Deep.QuietTactic
import Derived.BigQuiet
namespace Go.Proofs.Ytdmbgdeffoiijaa
open Go.RowKit
set_option linter.unusedVariables false
theorem bel_draw5 (w : World) (n : Nat) : Below w.heap.size w (w.drewN n) := ⟨rfl, rfl, rfl, Nat.le_refl _, fun _ _ => rfl⟩

theorem rclamp_any (n lo hi : Int) (w : World) :
    Calls Try.prog 21 #[.int .i64 n, .int .i64 lo, .int .i64 hi] w fun e w' => e = .returned (.int .i64 (clampV n lo hi)) ∧ w = w' := by
  by_cases h1 : n < lo
  · have e : clampV n lo hi = lo := by unfold clampV; rw [if_pos h1]
    rw [e]; clear e
    go_enter Try.func21, Try.ntmps21
    go_wp2
    go_ret
    exact ⟨rfl, rfl⟩
  · by_cases h2 : hi < n
    · have e : clampV n lo hi = hi := by unfold clampV; rw [if_neg h1, if_pos h2]
      rw [e]; clear e
      go_enter Try.func21, Try.ntmps21
      go_wp2
      go_ret
      exact ⟨rfl, rfl⟩
    · have e : clampV n lo hi = n := by unfold clampV; rw [if_neg h1, if_neg h2]
      rw [e]; clear e
      go_enter Try.func21, Try.ntmps21
      go_wp2
      go_ret
      exact ⟨rfl, rfl⟩

theorem rmod_any (a b : Int) (a0 : -9223372036854775808 ≤ a) (a1 : a ≤ 9223372036854775807) (b1 : b ≤ 9223372036854775807) (w : World) :
    Calls Try.prog 23 #[.int .i64 a, .int .i64 b] w fun e w' => e = .returned (.int .i64 (modV a b)) ∧ w = w' := by
  by_cases h1 : b ≤ 0
  · go_enter Try.func23, Try.ntmps23
    go_wp2
    go_ret
    exact ⟨by simp [modV, h1], rfl⟩
  · have e : modV a b = a % b := by simp [modV, h1]
    rw [e]
    clear e
    have m0 := Int.emod_nonneg a (b := b) (by omega)
    have m1 := Int.emod_lt_of_pos a (b := b) (by omega)
    have t := Int.tmod_eq_emod (a := a) (b := b)
    have hb : (b == 0) = false := by simp; omega
    have hn : (b.natAbs : Int) = b := by omega
    by_cases h2 : 0 ≤ a
    · go_enter Try.func23, Try.ntmps23
      clear t
      go_wp2
      go_ret
      exact ⟨rfl, rfl⟩
    · by_cases h3 : a.tmod b < 0
      · have t2 : a.tmod b = a % b - b := by rw [t] at h3 ⊢; split <;> simp_all <;> omega
        rw [t2] at h3
        clear t
        go_enter Try.func23, Try.ntmps23
        go_wp2
        go_ret
        exact ⟨by congr 2, rfl⟩
      · have t2 : a.tmod b = a % b := by rw [t] at h3 ⊢; split <;> simp_all <;> omega
        rw [t2] at h3
        clear t
        go_enter Try.func23, Try.ntmps23
        go_wp2
        go_ret
        exact ⟨rfl, rfl⟩

theorem rmulNorm8_any (a b : Int) (ha : 0 ≤ a) (ha' : a ≤ 255) (hb : 0 ≤ b) (hb' : b ≤ 255) (w : World) :
    Calls Try.prog 17 #[.int .u8 a, .int .u8 b] w fun e w' => e = .returned (.int .u8 ((a * b + 127) / 255)) ∧ w = w' := by
  have h0 : 0 ≤ a * b := Int.mul_nonneg ha hb
  have h1 : a * b ≤ 65025 := by
    have := Int.mul_le_mul ha' hb' hb (by omega : (0 : Int) ≤ 255)
    omega
  have e1 : 2 * a * b = 2 * (a * b) := Int.mul_assoc 2 a b
  have e2 : (2 * (a * b) + 255) / 510 = (a * b + 127) / 255 := by omega
  rw [← e2]
  clear e2
  go_enter Try.func17, Try.ntmps17
  go_wp2
  go_ret
  exact ⟨rfl, rfl⟩

theorem rdivNorm8_any (n : Int) (w : World) :
    Calls Try.prog 19 #[.int .i64 n] w fun e w' => e = .returned (.int .u8 (divN n)) ∧ w = w' := by
  by_cases h1 : n < 0
  · have e : divN n = 0 := by unfold divN clampV; rw [if_pos h1]; omega
    rw [e]; clear e
    go_enter Try.func19, Try.ntmps19
    go_wp2
    go_ret
    exact ⟨rfl, rfl⟩
  · by_cases h2 : 65025 < n
    · have e : divN n = 255 := by unfold divN clampV; rw [if_neg h1, if_pos h2]; omega
      rw [e]; clear e
      go_enter Try.func19, Try.ntmps19
      go_wp2
      go_ret
      exact ⟨rfl, rfl⟩
    · have e : divN n = (2 * n + 255) / 510 := by unfold divN clampV; rw [if_neg h1, if_neg h2]; omega
      rw [e]; clear e
      go_enter Try.func19, Try.ntmps19
      go_wp2
      go_ret
      exact ⟨rfl, rfl⟩

set_option maxHeartbeats 1000000 in
theorem intmathBytes_walk (a0_0 : Int) (a0_1 : Int) (a1 : Int) (a2_0 : Int) (a2_1 : Int) (w : World) (wa0_0 : (Lit.int .u8 a0_0).wf = true) (wa0_1 : (Lit.int .u8 a0_1).wf = true) (wa1 : (Lit.int .i64 a1).wf = true) (wa2_0 : (Lit.int .i64 a2_0).wf = true) (wa2_1 : (Lit.int .i64 a2_1).wf = true) :
    Calls Try.prog 4 #[.agg #[.int .u8 a0_0, .int .u8 a0_1], .int .i64 a1, .agg #[.int .i64 a2_0, .int .i64 a2_1]] w fun e w' => e = .returned (.bool true) ∧ Below w.heap.size w w' := by
  obtain ⟨ha, ha'⟩ := bounds_u8 wa0_0
  obtain ⟨hb, hb'⟩ := bounds_u8 wa0_1
  obtain ⟨hn, hn'⟩ := bounds_i64 wa1
  obtain ⟨h2, h2'⟩ := bounds_i64 wa2_0
  clear wa0_0 wa0_1 wa1 wa2_0 wa2_1
  have m1 := fun w => mulNorm8_any a0_0 a0_1 ha ha' hb hb' w
  have m2 := fun w => rmulNorm8_any a0_0 a0_1 ha ha' hb hb' w
  have d1 := fun w => divNorm8_any a1 w
  have d2 := fun w => rdivNorm8_any a1 w
  have c1 := fun w => clamp_any a1 a2_0 a2_1 w
  have c2 := fun w => rclamp_any a1 a2_0 a2_1 w
  have o1 := fun w => mod_any a1 a2_0 hn hn' h2' w
  have o2 := fun w => rmod_any a1 a2_0 hn hn' h2' w
  go_enter Try.func4, Try.ntmps4
  go_wp2
  go_quiet (fail)
  go_wp2_with (first | (go_at_call 16; first | ((with_reducible refine (m1 _).mono ?_); rintro e w' ⟨rfl, rfl⟩)) | (go_at_call 17; first | ((with_reducible refine (m2 _).mono ?_); rintro e w' ⟨rfl, rfl⟩)) | (go_at_call 18; first | ((with_reducible refine (d1 _).mono ?_); rintro e w' ⟨rfl, rfl⟩)) | (go_at_call 19; first | ((with_reducible refine (d2 _).mono ?_); rintro e w' ⟨rfl, rfl⟩)) | (go_at_call 20; first | ((with_reducible refine (c1 _).mono ?_); rintro e w' ⟨rfl, rfl⟩)) | (go_at_call 21; first | ((with_reducible refine (c2 _).mono ?_); rintro e w' ⟨rfl, rfl⟩)) | (go_at_call 22; first | ((with_reducible refine (o1 _).mono ?_); rintro e w' ⟨rfl, rfl⟩)) | (go_at_call 23; first | ((with_reducible refine (o2 _).mono ?_); rintro e w' ⟨rfl, rfl⟩)) | (go_at_call 15; (with_reducible refine (example_any _).mono ?_); rintro e w' ⟨rfl, nd, rfl⟩))
  all_goals (go_ret; exact ⟨rfl, by repeat (first | exact Below.refl _ _ | exact (Below.refl _ _).alloc (Nat.le_refl _) _ | exact ((Below.refl _ _).alloc (Nat.le_refl _) _).alloc (by simp) _ | apply below_drewN)⟩)
end Go.Proofs.Ytdmbgdeffoiijaa
