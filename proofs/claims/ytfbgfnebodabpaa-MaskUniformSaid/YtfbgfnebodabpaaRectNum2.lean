
import Derived.Test.YtfbgfnebodabpaaRectNum
namespace Go.Proofs.Ytfbgfnebodabpaa
set_option linter.unusedVariables false
set_option linter.unusedSimpArgs false
/- plain facts on intersections, unions and outsets of rectangles -/
theorem ix_empty (a b c d s t u v m0 m1 m2 m3 : Int) (j0 : max (cn (eR a b c d) a) (cn (eR s t u v) s) = m0) (j1 : max (cn (eR a b c d) b) (cn (eR s t u v) t) = m1) (j2 : min (cn (eR a b c d) c) (cn (eR s t u v) u) = m2) (j3 : min (cn (eR a b c d) d) (cn (eR s t u v) v) = m3) (he : eR a b c d = true ∨ eR s t u v = true) : eR m0 m1 m2 m3 = true := by
  cases hm : eR m0 m1 m2 m3 with
  | true => rfl
  | false =>
    have k := (eR_false m0 m1 m2 m3).1 hm
    rcases he with he | he
    · rw [he] at j0 j1 j2 j3; simp only [cn_true] at j0 j1 j2 j3; omega
    · rw [he] at j0 j1 j2 j3; simp only [cn_true] at j0 j1 j2 j3; omega
def uLo (ea es : Bool) (a s : Int) : Int := if ea = true then cn es s else if es = true then a else min a s
def uHi (ea es : Bool) (a s : Int) : Int := if ea = true then cn es s else if es = true then a else max a s
def wB (a b c d s t u v : Int) : Bool := eR a b c d || (!eR s t u v && decide (s ≤ a) && decide (c ≤ u) && decide (t ≤ b) && decide (d ≤ v))
theorem wB_true (a b c d s t u v : Int) : wB a b c d s t u v = true ↔ eR a b c d = true ∨ (eR s t u v = false ∧ s ≤ a ∧ c ≤ u ∧ t ≤ b ∧ d ≤ v) := by
  simp [wB, and_assoc]
theorem within_ne (a b c d s t u v m0 m1 m2 m3 : Int) (j0 : max (cn (eR a b c d) a) (cn (eR s t u v) s) = m0) (j1 : max (cn (eR a b c d) b) (cn (eR s t u v) t) = m1) (j2 : min (cn (eR a b c d) c) (cn (eR s t u v) u) = m2) (j3 : min (cn (eR a b c d) d) (cn (eR s t u v) v) = m3) (ea : eR a b c d = false) (hw : wB a b c d s t u v = false) : ¬ (cn (eR m0 m1 m2 m3) m0 = a ∧ cn (eR m0 m1 m2 m3) m1 = b ∧ cn (eR m0 m1 m2 m3) m2 = c ∧ cn (eR m0 m1 m2 m3) m3 = d) := by
  rintro ⟨k0, k1, k2, k3⟩
  have ka := (eR_false a b c d).1 ea
  cases em : eR m0 m1 m2 m3 with
  | true => rw [em] at k0 k1 k2 k3; simp only [cn_true] at k0 k1 k2 k3; omega
  | false =>
    rw [em] at k0 k1 k2 k3; simp only [cn_false] at k0 k1 k2 k3
    cases es : eR s t u v with
    | true => have := ix_empty a b c d s t u v m0 m1 m2 m3 j0 j1 j2 j3 (.inr es); rw [em] at this; exact absurd this (by simp)
    | false =>
      rw [ea, es] at j0 j1 j2 j3
      simp only [cn_false] at j0 j1 j2 j3
      have : wB a b c d s t u v = true := (wB_true a b c d s t u v).2 (.inr ⟨es, by omega, by omega, by omega, by omega⟩)
      rw [hw] at this; exact absurd this (by simp)
theorem within_eq (a b c d s t u v m0 m1 m2 m3 : Int) (j0 : max (cn (eR a b c d) a) (cn (eR s t u v) s) = m0) (j1 : max (cn (eR a b c d) b) (cn (eR s t u v) t) = m1) (j2 : min (cn (eR a b c d) c) (cn (eR s t u v) u) = m2) (j3 : min (cn (eR a b c d) d) (cn (eR s t u v) v) = m3) (ea : eR a b c d = false) (hw : wB a b c d s t u v = true) : m0 = a ∧ m1 = b ∧ m2 = c ∧ m3 = d := by
  rcases (wB_true a b c d s t u v).1 hw with h | ⟨es, h0, h1, h2, h3⟩
  · rw [ea] at h; exact absurd h (by simp)
  · rw [ea, es] at j0 j1 j2 j3
    simp only [cn_false] at j0 j1 j2 j3
    omega
end Go.Proofs.Ytfbgfnebodabpaa
