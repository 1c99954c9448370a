import Derived.Test.YtgaabdidddglhaaB4
namespace Go.Proofs.Ytgaabdidddglhaa
set_option linter.unusedVariables false
set_option linter.unusedSimpArgs false
/- plain facts: the terms of the modes that mix colors -/
def lo3 (x0 x1 x2 : Int) : Int := min (min x0 x1) x2
def hi3 (x0 x1 x2 : Int) : Int := max (max x0 x1) x2
def lm3 (x0 x1 x2 : Int) : Int := 30 * x0 + 59 * x1 + 11 * x2
/- a component's term: m the spread, k the luminosity above the lowest -/
def frN (c lo hi m k t l a : Int) : Int :=
  if m = 0 then l else if l * m < t * k then l * (c - lo) else if 100 * a * m < 100 * m * t + l * m - t * k then a * (100 * m - k) - (100 * a - l) * (hi - c) else 100 * (c - lo) * t + l * m - t * k
def frD (m k t l a : Int) : Int :=
  if m = 0 then 100 else if l * m < t * k then k else if 100 * a * m < 100 * m * t + l * m - t * k then 100 * m - k else 100 * m
def mixQ (u n d : Int) : Int := (2 * (n + u * d) + d * 255) / (2 * (d * 255))
theorem lm3_bd (x0 x1 x2 : Int) : 100 * lo3 x0 x1 x2 ≤ lm3 x0 x1 x2 ∧ lm3 x0 x1 x2 ≤ 100 * hi3 x0 x1 x2 := by unfold lo3 hi3 lm3; omega
theorem mulB {x y X Y : Int} (h0 : 0 ≤ x) (h1 : x ≤ X) (g0 : 0 ≤ y) (g1 : y ≤ Y) : 0 ≤ x * y ∧ x * y ≤ X * Y := ⟨Int.mul_nonneg h0 g0, Int.mul_le_mul h1 g1 g0 (by omega)⟩
theorem fr_bd {c lo hi m k t l a : Int} (hm : hi - lo = m) (c0 : lo ≤ c) (c1 : c ≤ hi) (k0 : 0 ≤ k) (k1 : k ≤ 100 * m) (t0 : 0 ≤ t) (t1 : t ≤ a) (l0 : 0 ≤ l) (l1 : l ≤ 100 * a) (a0 : 0 ≤ a) :
    0 < frD m k t l a ∧ 0 ≤ frN c lo hi m k t l a ∧ frN c lo hi m k t l a ≤ a * frD m k t l a := by
  unfold frN frD
  by_cases h1 : m = 0
  · simp only [if_pos h1]; omega
  simp only [if_neg h1]
  have mp : 0 < m := by omega
  by_cases h2 : l * m < t * k
  · simp only [if_pos h2]
    have q1 : l * (c - lo) ≤ l * m := Int.mul_le_mul_of_nonneg_left (by omega) l0
    have q2 : 0 ≤ l * (c - lo) := Int.mul_nonneg l0 (by omega)
    have q3 : t * k ≤ a * k := Int.mul_le_mul_of_nonneg_right t1 k0
    have q4 : 0 ≤ l * m := Int.mul_nonneg l0 (by omega)
    refine ⟨?_, q2, by omega⟩
    by_cases hk : k = 0
    · rw [hk, Int.mul_zero] at h2; omega
    · omega
  simp only [if_neg h2]
  by_cases h3 : 100 * a * m < 100 * m * t + l * m - t * k
  · simp only [if_pos h3]
    have e1 : t * (100 * m - k) = 100 * m * t - t * k := by rw [Int.mul_sub, ← Int.mul_assoc, Int.mul_comm t 100, Int.mul_assoc 100 t m, Int.mul_assoc 100 m t, Int.mul_comm t m]
    have e2 : (100 * a - l) * m = 100 * a * m - l * m := Int.sub_mul _ _ _
    have q1 : (100 * a - l) * (hi - c) ≤ (100 * a - l) * m := Int.mul_le_mul_of_nonneg_left (by omega) (by omega)
    have q2 : 0 ≤ (100 * a - l) * (hi - c) := Int.mul_nonneg (by omega) (by omega)
    have q3 : t * (100 * m - k) ≤ a * (100 * m - k) := Int.mul_le_mul_of_nonneg_right t1 (by omega)
    have q4 : 0 ≤ (100 * a - l) * m := Int.mul_nonneg (by omega) (by omega)
    refine ⟨?_, by omega, by omega⟩
    by_cases hk : 100 * m - k = 0
    · rw [hk, Int.mul_zero] at e1; omega
    · omega
  · simp only [if_neg h3]
    have q1 : 100 * (c - lo) * t ≤ 100 * m * t := Int.mul_le_mul_of_nonneg_right (by omega) t0
    have q2 : 0 ≤ 100 * (c - lo) * t := Int.mul_nonneg (by omega) t0
    have e1 : a * (100 * m) = 100 * a * m := by rw [← Int.mul_assoc, Int.mul_comm a 100]
    rw [e1]
    refine ⟨by omega, by omega, by omega⟩
theorem mixQ_bd {u n d A : Int} (u0 : 0 ≤ u) (d0 : 0 < d) (n0 : 0 ≤ n) (n1 : n ≤ A * d) : 0 ≤ mixQ u n d ∧ mixQ u n d ≤ (u + A + 127) / 255 := by
  unfold mixQ
  have ud : 0 ≤ u * d := Int.mul_nonneg u0 (by omega)
  refine ⟨Int.ediv_nonneg (by omega) (by omega), ?_⟩
  have e : (u + A) * d = u * d + A * d := Int.add_mul _ _ _
  have h1 : 2 * (n + u * d) + d * 255 ≤ d * (2 * (u + A) + 255) := by
    have e2 : d * (2 * (u + A) + 255) = 2 * ((u + A) * d) + d * 255 := by
      rw [Int.mul_add d (2 * (u + A)) 255, ← Int.mul_assoc d 2 (u + A), Int.mul_comm d 2, Int.mul_assoc 2 d (u + A), Int.mul_comm d (u + A)]
    rw [e2]
    omega
  have h2 : (2 * (n + u * d) + d * 255) / (2 * (d * 255)) ≤ (d * (2 * (u + A) + 255)) / (2 * (d * 255)) := Int.ediv_le_ediv (by omega) h1
  have h3 : (d * (2 * (u + A) + 255)) / (2 * (d * 255)) = (2 * (u + A) + 255) / 510 := by
    rw [show 2 * (d * 255) = d * 510 by omega]
    exact Int.mul_ediv_mul_of_pos _ _ d0
  omega
end Go.Proofs.Ytgaabdidddglhaa
