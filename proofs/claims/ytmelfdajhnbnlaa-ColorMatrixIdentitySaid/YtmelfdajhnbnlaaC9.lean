
import Derived.Test.YtmelfdajhnbnlaaC8
import Derived.Test.YtmelfdajhnbnlaaMod
import Derived.WalkKit
import Derived.WalkSpells
import Derived.WalkLawsBesides
import Derived.Lib.Hide
import Derived.Below
import Derived.Deep.QuietTactic
import Derived.BigQuiet
import Derived.Deep.RegionHeld3
import Derived.Deep.DrawnRows
import Derived.Deep.DeepFit
import Derived.IntWalk
namespace Go.Proofs.Ytmelfdajhnbnlaa
open Go.RowKit
set_option linter.unusedVariables false
set_option linter.unusedSimpArgs false
attribute [local go_sem ↓] Go.wp_at_zero Go.wp_at_succ
attribute [local go_sem] rhoF_tmp rhoF_const rhoF_global rhoF_func

/- Rounded quotients of numbers that are not negative. -/
theorem rnd_bd (n d : Int) (n0 : 0 ≤ n) (n1 : n ≤ 9223372036854775806) (d0 : 1 ≤ d) : 0 ≤ mdrV n 1 d ∧ 2 * (mdrV n 1 d * d) ≤ 2 * n + d ∧ 2 * n < 2 * (mdrV n 1 d * d) + d := by
  have hsm : (n.natAbs : Int) * ((1 : Int).natAbs : Int) ≤ 9223372036854775806 := by
    have : ((1 : Int).natAbs : Int) = 1 := rfl
    rw [this, Int.mul_one]; omega
  have hr := (mdr_small n 1 d (by omega) hsm).2
  obtain ⟨r0, r1⟩ := mdM_round n d (by omega)
  have b0 := (mdM_bd n 1 d 9223372036854775806 (by omega) hsm).1
  have hs : sgn n 1 d = false := by
    unfold sgn
    rw [show decide ((1 : Int) < 0) = false by decide, show decide (d < 0) = false by simp; omega, show decide (n < 0) = false by simp; omega]
    rfl
  rw [hs] at hr
  simp only [Bool.false_eq_true, if_false] at hr
  rw [show ((d.natAbs : Int)) = d by omega, show ((n.natAbs : Int)) = n by omega] at r0 r1
  rw [hr]
  exact ⟨b0, by omega, by omega⟩
/-- The hue's sixth, and back. -/
theorem hue_bd (n d : Int) (n0 : 0 ≤ n) (n1 : n ≤ d) (d0 : 1 ≤ d) (d1 : d ≤ 255) :
    0 ≤ mdrV (256 * n) 1 d ∧ mdrV (256 * n) 1 d ≤ 256 ∧ mdrV (d * mdrV (256 * n) 1 d) 1 256 = n ∧ (mdrV (256 * n) 1 d = 256 → n = d) ∧ (0 < n → 1 ≤ mdrV (256 * n) 1 d) := by
  obtain ⟨a0, a1, a2⟩ := rnd_bd (256 * n) d (by omega) (by omega) d0
  obtain ⟨Q, hQ⟩ : ∃ Q, mdrV (256 * n) 1 d = Q := ⟨_, rfl⟩
  rw [hQ] at a0 a1 a2 ⊢
  have hQ256 : Q ≤ 256 := by
    by_cases hc : Q ≤ 256
    · exact hc
    · have h1 : 257 * d ≤ Q * d := Int.mul_le_mul_of_nonneg_right (by omega) (by omega)
      omega
  have hz : Q = 0 → Q * d = 0 := fun h => by rw [h]; omega
  have hf : Q = 256 → Q * d = 256 * d := fun h => by rw [h]
  have hp0 : 0 ≤ Q * d := Int.mul_nonneg a0 (by omega)
  have hp1 : Q * d ≤ 256 * d := Int.mul_le_mul_of_nonneg_right hQ256 (by omega)
  rw [Int.mul_comm d Q]
  obtain ⟨P, hP⟩ : ∃ P, Q * d = P := ⟨_, rfl⟩
  rw [hP] at a1 a2 hz hf hp0 hp1 ⊢
  obtain ⟨b0, b1, b2⟩ := rnd_bd P 256 hp0 (by omega) (by omega)
  obtain ⟨V, hV⟩ : ∃ V, mdrV P 1 256 = V := ⟨_, rfl⟩
  rw [hV] at b0 b1 b2 ⊢
  refine ⟨a0, hQ256, by omega, fun h => by have := hf h; omega, fun h => ?_⟩
  by_cases hq : Q = 0
  · have := hz hq
    omega
  · omega
theorem hue_neg (n d : Int) (n0 : 0 ≤ n) (n1 : n ≤ d) (d0 : 1 ≤ d) (d1 : d ≤ 255) : mdrV (256 * -n) 1 d = -(mdrV (256 * n) 1 d) := by
  have := (mdr_neg (256 * n) 1 d (by omega) (by
    have : ((1 : Int).natAbs : Int) = 1 := rfl
    rw [this, Int.mul_one]; omega)).1
  rw [← this]
  congr 1
  omega
/-- The saturation, and back. -/
theorem sat_bd (d m : Int) (d0 : 0 ≤ d) (d1 : d ≤ m) (m0 : 1 ≤ m) (m1 : m ≤ 255) :
    0 ≤ mdrV (255 * d) 1 m ∧ mdrV (255 * d) 1 m ≤ 255 ∧ mdrV (mdrV (255 * d) 1 m * m) 1 255 = d ∧ (0 < d → 1 ≤ mdrV (255 * d) 1 m) := by
  obtain ⟨a0, a1, a2⟩ := rnd_bd (255 * d) m (by omega) (by omega) m0
  obtain ⟨Q, hQ⟩ : ∃ Q, mdrV (255 * d) 1 m = Q := ⟨_, rfl⟩
  rw [hQ] at a0 a1 a2 ⊢
  have hQ255 : Q ≤ 255 := by
    by_cases hc : Q ≤ 255
    · exact hc
    · have h1 : 256 * m ≤ Q * m := Int.mul_le_mul_of_nonneg_right (by omega) (by omega)
      omega
  have hz : Q = 0 → Q * m = 0 := fun h => by rw [h]; omega
  have hp0 : 0 ≤ Q * m := Int.mul_nonneg a0 (by omega)
  have hp1 : Q * m ≤ 255 * m := Int.mul_le_mul_of_nonneg_right hQ255 (by omega)
  obtain ⟨P, hP⟩ : ∃ P, Q * m = P := ⟨_, rfl⟩
  rw [hP] at a1 a2 hz hp0 hp1 ⊢
  obtain ⟨b0, b1, b2⟩ := rnd_bd P 255 hp0 (by omega) (by omega)
  obtain ⟨V, hV⟩ : ∃ V, mdrV P 1 255 = V := ⟨_, rfl⟩
  rw [hV] at b0 b1 b2 ⊢
  refine ⟨a0, hQ255, by omega, fun h => ?_⟩
  by_cases hq : Q = 0
  · have := hz hq
    omega
  · omega
theorem rnd_zero (d : Int) (d0 : 1 ≤ d) : mdrV 0 1 d = 0 := by
  obtain ⟨a0, a1, a2⟩ := rnd_bd 0 d (by omega) (by omega) d0
  by_cases h : mdrV 0 1 d = 0
  · exact h
  · have h1 : 1 * d ≤ mdrV 0 1 d * d := Int.mul_le_mul_of_nonneg_right (by omega) (by omega)
    omega
theorem rnd_mul (n d : Int) (n0 : 0 ≤ n) (n1 : n * d ≤ 9223372036854775806) (d0 : 1 ≤ d) : mdrV (n * d) 1 d = n := by
  have hp : 0 ≤ n * d := Int.mul_nonneg n0 (by omega)
  obtain ⟨a0, a1, a2⟩ := rnd_bd (n * d) d hp n1 d0
  obtain ⟨V, hV⟩ : ∃ V, mdrV (n * d) 1 d = V := ⟨_, rfl⟩
  rw [hV] at a0 a1 a2 ⊢
  rcases Int.lt_trichotomy V n with h | h | h
  · have h1 : (V + 1) * d ≤ n * d := Int.mul_le_mul_of_nonneg_right (by omega) (by omega)
    rw [Int.add_mul, Int.one_mul] at h1
    omega
  · exact h
  · have h1 : (n + 1) * d ≤ V * d := Int.mul_le_mul_of_nonneg_right (by omega) (by omega)
    rw [Int.add_mul, Int.one_mul] at h1
    omega
end Go.Proofs.Ytmelfdajhnbnlaa
