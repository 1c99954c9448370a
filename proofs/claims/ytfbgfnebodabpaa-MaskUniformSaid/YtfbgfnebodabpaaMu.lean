import Derived.Test.YtfbgfnebodabpaaMk
import Derived.Test.YtfbgfnebodabpaaMn
import Derived.Test.YtfbgfnebodabpaaRectNum2
namespace Go.Proofs.Ytfbgfnebodabpaa
set_option linter.unusedVariables false
set_option linter.unusedSimpArgs false
theorem eR_zero : eR 0 0 0 0 = true := by decide
theorem eR_cn (a b c d : Int) : eR (cn (eR a b c d) a) (cn (eR a b c d) b) (cn (eR a b c d) c) (cn (eR a b c d) d) = eR a b c d := by
  cases h : eR a b c d with
  | true => simp only [cn_true]; exact eR_zero
  | false => simp only [cn_false]; exact h
theorem caR_cn (a b c d : Int) : caR (cn (eR a b c d) a) (cn (eR a b c d) b) (cn (eR a b c d) c) (cn (eR a b c d) d) = true := by
  unfold caR
  rw [eR_cn]
  cases h : eR a b c d with
  | true => simp [cn_true]
  | false => simp
theorem arR_cn (a b c d : Int) : arR (cn (eR a b c d) a) (cn (eR a b c d) b) (cn (eR a b c d) c) (cn (eR a b c d) d) = arR a b c d := by
  unfold arR
  rw [eR_cn]
  cases h : eR a b c d with
  | true => simp [cn_true]
  | false => simp [cn_false]
theorem caR_un (a b c d s t u v : Int) : caR (uLo (eR a b c d) (eR s t u v) a s) (uLo (eR a b c d) (eR s t u v) b t) (uHi (eR a b c d) (eR s t u v) c u) (uHi (eR a b c d) (eR s t u v) d v) = true := by
  cases ha : eR a b c d with
  | true =>
    simp only [uLo, uHi, if_true]
    exact caR_cn s t u v
  | false =>
    cases hs : eR s t u v with
    | true => simp [uLo, uHi, caR, ha]
    | false =>
      have h1 := (eR_false a b c d).1 ha
      have h2 := (eR_false s t u v).1 hs
      simp only [uLo, uHi, Bool.false_eq_true, if_false]
      have : eR (min a s) (min b t) (max c u) (max d v) = false := (eR_false _ _ _ _).2 (by omega)
      simp [caR, this]
/-- The area of an intersection. -/
theorem arR_in (a b c d s t u v m0 m1 m2 m3 : Int) (j0 : max (cn (eR a b c d) a) (cn (eR s t u v) s) = m0) (j1 : max (cn (eR a b c d) b) (cn (eR s t u v) t) = m1) (j2 : min (cn (eR a b c d) c) (cn (eR s t u v) u) = m2) (j3 : min (cn (eR a b c d) d) (cn (eR s t u v) v) = m3) : arR m0 m1 m2 m3 ≤ arR a b c d := by
  cases hm : eR m0 m1 m2 m3 with
  | true =>
    have h0 := (arR_bd a b c d).1
    simp only [arR, hm, cn_true] at h0 ⊢
    simpa using h0
  | false =>
    have hi := (eR_false m0 m1 m2 m3).1 hm
    cases ha : eR a b c d with
    | true => have := ix_empty a b c d s t u v m0 m1 m2 m3 j0 j1 j2 j3 (.inl ha); rw [hm] at this; cases this
    | false =>
      rw [ha] at j0 j1 j2 j3
      simp only [cn_false] at j0 j1 j2 j3
      simp only [arR, hm, ha, cn_false]
      exact Int.mul_le_mul (by omega) (by omega) (by omega) (by omega)
def un8 (v k : Int) : Int := v + (k - mn8 v k)
theorem un8_bd (v k : Int) (v0 : 0 ≤ v) (v1 : v ≤ 255) (k0 : 0 ≤ k) (k1 : k ≤ 255) : 0 ≤ un8 v k ∧ un8 v k ≤ 255 ∧ 0 ≤ k - mn8 v k ∧ k - mn8 v k ≤ 255 ∧ v ≤ un8 v k ∧ k ≤ un8 v k := by
  obtain ⟨p0, p1, p2, p3, p4, p5⟩ := mn8_bd v k v0 v1 k0 k1
  have h : 0 ≤ (255 - v) * (255 - k) := Int.mul_nonneg (by omega) (by omega)
  have h2 : (255 - v) * (255 - k) = 65025 - 255 * k - 255 * v + v * k := by
    rw [Int.sub_mul, Int.mul_sub, Int.mul_sub, Int.mul_comm v 255]; omega
  unfold un8 mn8 at *
  omega
theorem vM_of {a b c d : Int} {n : Nat} (h : vM a b c d n = true) : caR a b c d = true ∧ arR a b c d ≤ 65536 ∧ (n : Int) = arR a b c d := by
  simpa [vM, and_assoc] using h
theorem vM_mk {a b c d : Int} {n : Nat} (h1 : caR a b c d = true) (h2 : arR a b c d ≤ 65536) (h3 : (n : Int) = arR a b c d) : vM a b c d n = true := by
  simp [vM, h1, h2, h3]
end Go.Proofs.Ytfbgfnebodabpaa
