import Derived.Test.YtcklplodbdbciaaMdr
namespace Go.Proofs.Ytcklplodbdbciaa
set_option linter.unusedVariables false
set_option linter.unusedSimpArgs false
/- plain facts: a component between two others -/
def lc (v u m d : Int) : Int := v + mdrV (m * (u - v)) 1 d
theorem prod_bd (v u m d : Int) (v0 : 0 ≤ v) (v1 : v ≤ 255) (u0 : 0 ≤ u) (u1 : u ≤ 255) (m0 : 0 ≤ m) (m1 : m ≤ d) : -(d * 255) ≤ m * (u - v) ∧ m * (u - v) ≤ d * 255 ∧ ((m * (u - v)).natAbs : Int) = m * ((u - v).natAbs : Int) ∧ m * ((u - v).natAbs : Int) ≤ d * ((u - v).natAbs : Int) := by
  have k0 : (0 : Int) ≤ ((u - v).natAbs : Int) := by omega
  have h := Int.mul_le_mul_of_nonneg_right m1 k0
  have e : ((m * (u - v)).natAbs : Int) = m * ((u - v).natAbs : Int) := by
    rw [Int.natAbs_mul]; push_cast
    rw [show ((m.natAbs : Int)) = m by omega]
  have k1 : ((u - v).natAbs : Int) ≤ 255 := by omega
  have h2 : d * ((u - v).natAbs : Int) ≤ d * 255 := Int.mul_le_mul_of_nonneg_left k1 (by omega)
  refine ⟨?_, ?_, e, h⟩ <;> omega
theorem lc_bd (v u m d : Int) (v0 : 0 ≤ v) (v1 : v ≤ 255) (u0 : 0 ≤ u) (u1 : u ≤ 255) (m0 : 0 ≤ m) (m1 : m ≤ d) (d0 : 1 ≤ d) (d1 : d ≤ 1099511627776) :
    min v u ≤ lc v u m d ∧ lc v u m d ≤ max v u ∧ -255 ≤ mdrV (m * (u - v)) 1 d ∧ mdrV (m * (u - v)) 1 d ≤ 255 := by
  obtain ⟨p0, p1, p2, p3⟩ := prod_bd v u m d v0 v1 u0 u1 m0 m1
  have hsm : ((m * (u - v)).natAbs : Int) * ((1 : Int).natAbs : Int) ≤ 9223372036854775806 := by
    have : ((1 : Int).natAbs : Int) = 1 := rfl
    rw [this, Int.mul_one]; omega
  have hr := (mdr_small (m * (u - v)) 1 d (by omega) hsm).2
  obtain ⟨r0, r1⟩ := mdM_round (m * (u - v)) d (by omega)
  have b0 := (mdM_bd (m * (u - v)) 1 d 9223372036854775806 (by omega) hsm).1
  rw [p2, show ((d.natAbs : Int)) = d by omega] at r0
  have hM : mdM (m * (u - v)) 1 d ≤ ((u - v).natAbs : Int) := by
    by_cases hc : mdM (m * (u - v)) 1 d ≤ ((u - v).natAbs : Int)
    · exact hc
    · have h1 : (((u - v).natAbs : Int) + 1) * d ≤ mdM (m * (u - v)) 1 d * d := Int.mul_le_mul_of_nonneg_right (by omega) (by omega)
      rw [Int.add_mul, Int.one_mul, Int.mul_comm (((u - v).natAbs : Int)) d] at h1
      omega
  have hs : sgn (m * (u - v)) 1 d = decide (m * (u - v) < 0) := by
    unfold sgn
    rw [show decide ((1 : Int) < 0) = false by decide, show decide (d < 0) = false by simp; omega]
    cases decide (m * (u - v) < 0) <;> rfl
  unfold lc
  rw [hr, hs]
  by_cases hvu : v ≤ u
  · have q : 0 ≤ m * (u - v) := Int.mul_nonneg m0 (by omega)
    have : decide (m * (u - v) < 0) = false := by simp; omega
    rw [this]; simp only [Bool.false_eq_true, if_false]
    omega
  · have hq : ¬ 0 < m * (u - v) := fun hh => by
      have := Int.mul_nonneg m0 (show 0 ≤ v - u by omega)
      rw [show m * (v - u) = -(m * (u - v)) by rw [← Int.mul_neg]; congr 1; omega] at this
      omega
    by_cases hn : m * (u - v) < 0
    · have : decide (m * (u - v) < 0) = true := by simpa using hn
      rw [this]; simp only [if_true]
      omega
    · have z : m * (u - v) = 0 := by omega
      have : decide (m * (u - v) < 0) = false := by simpa using hn
      have hz : mdM (m * (u - v)) 1 d = 0 := by rw [z]; exact mdM_zero 1 d (by omega)
      rw [this, hz]; simp only [Bool.false_eq_true, if_false]
      omega
end Go.Proofs.Ytcklplodbdbciaa
