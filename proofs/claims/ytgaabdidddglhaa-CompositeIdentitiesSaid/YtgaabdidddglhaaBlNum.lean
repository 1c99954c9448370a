import Derived.Test.YtgaabdidddglhaaVecNum
namespace Go.Proofs.Ytgaabdidddglhaa
set_option linter.unusedVariables false
set_option linter.unusedSimpArgs false
/- plain facts: the terms of the separable blend modes -/
def lgt (b : Bool) (s sa d da : Int) : Int := if b = true then 2 * s * d else sa * da - 2 * (da - d) * (sa - s)
def trm (m s sa d da : Int) : Int :=
  if m = 1 then s * da else if m = 2 then s * d else if m = 3 then s * da + d * sa - s * d else if m = 4 then lgt (decide (2 * d ≤ da)) s sa d da
  else if m = 9 then lgt (decide (2 * s ≤ sa)) s sa d da else if m = 5 then min (s * da) (d * sa) else if m = 6 then max (s * da) (d * sa)
  else if m = 7 then max (s * da) (d * sa) - min (s * da) (d * sa) else if m = 8 then s * da + d * sa - 2 * s * d else 0
def termF (m s sa d da : Int) : Int := if s < 0 ∨ sa < s ∨ 255 < sa ∨ d < 0 ∨ da < d ∨ 255 < da then 0 else trm m s sa d da
theorem termF_in {m s sa d da : Int} (h : 0 ≤ s ∧ s ≤ sa ∧ sa ≤ 255 ∧ 0 ≤ d ∧ d ≤ da ∧ da ≤ 255) : termF m s sa d da = trm m s sa d da := by unfold termF; rw [if_neg (by omega)]
theorem termF_out {m s sa d da : Int} (h : s < 0 ∨ sa < s ∨ 255 < sa ∨ d < 0 ∨ da < d ∨ 255 < da) : termF m s sa d da = 0 := by unfold termF; rw [if_pos h]
theorem prods {s sa d da : Int} (h : 0 ≤ s ∧ s ≤ sa ∧ sa ≤ 255 ∧ 0 ≤ d ∧ d ≤ da ∧ da ≤ 255) :
    0 ≤ s * d ∧ 0 ≤ s * da - s * d ∧ 0 ≤ d * sa - s * d ∧ 0 ≤ sa * da - s * da - d * sa + s * d ∧ sa * da ≤ 65025 ∧ 2 * s * d = 2 * (s * d) ∧ 2 * (da - d) * (sa - s) = 2 * (sa * da - s * da - d * sa + s * d) := by
  obtain ⟨h0, h1, h2, h3, h4, h5⟩ := h
  have p1 : 0 ≤ s * d := Int.mul_nonneg h0 h3
  have p2 : 0 ≤ s * (da - d) := Int.mul_nonneg h0 (by omega)
  have p3 : 0 ≤ d * (sa - s) := Int.mul_nonneg h3 (by omega)
  have p4 : 0 ≤ (sa - s) * (da - d) := Int.mul_nonneg (by omega) (by omega)
  have p5 : sa * da ≤ 255 * 255 := Int.mul_le_mul h2 h5 (by omega) (by omega)
  rw [Int.mul_sub] at p2 p3
  rw [Int.mul_sub, Int.sub_mul, Int.sub_mul, Int.mul_comm sa d] at p4
  rw [Int.mul_comm d s] at p3
  have e : 2 * (da - d) * (sa - s) = 2 * ((sa - s) * (da - d)) := by rw [Int.mul_assoc, Int.mul_comm (da - d)]
  rw [Int.mul_sub (sa - s), Int.sub_mul, Int.sub_mul, Int.mul_comm sa d] at e
  refine ⟨p1, p2, p3, by omega, by omega, Int.mul_assoc _ _ _, by omega⟩
theorem trm_bd (m : Int) {s sa d da : Int} (h : 0 ≤ s ∧ s ≤ sa ∧ sa ≤ 255 ∧ 0 ≤ d ∧ d ≤ da ∧ da ≤ 255) : 0 ≤ trm m s sa d da ∧ trm m s sa d da ≤ sa * da := by
  obtain ⟨p1, p2, p3, p4, p5, p6, p7⟩ := prods h
  obtain ⟨h0, h1, h2, h3, h4, h5⟩ := h
  unfold trm
  split
  · omega
  split
  · omega
  split
  · omega
  split
  · unfold lgt
    by_cases hb : 2 * d ≤ da
    · have q : 0 ≤ s * (da - 2 * d) := Int.mul_nonneg h0 (by omega)
      rw [Int.mul_sub, show s * (2 * d) = 2 * (s * d) by rw [← Int.mul_assoc, Int.mul_comm s 2, Int.mul_assoc]] at q
      rw [if_pos (by simpa using hb)]; omega
    · have q : 0 ≤ (sa - s) * (2 * d - da) := Int.mul_nonneg (by omega) (by omega)
      rw [Int.mul_sub, Int.sub_mul, Int.sub_mul, show s * (2 * d) = 2 * (s * d) by rw [← Int.mul_assoc, Int.mul_comm s 2, Int.mul_assoc], show sa * (2 * d) = 2 * (d * sa) by rw [← Int.mul_assoc, Int.mul_comm sa 2, Int.mul_assoc, Int.mul_comm sa d]] at q
      rw [if_neg (by simpa using hb)]; omega
  split
  · unfold lgt
    by_cases hb : 2 * s ≤ sa
    · have q : 0 ≤ d * (sa - 2 * s) := Int.mul_nonneg h3 (by omega)
      rw [Int.mul_sub, show d * (2 * s) = 2 * (s * d) by rw [← Int.mul_assoc, Int.mul_comm d 2, Int.mul_assoc, Int.mul_comm d s]] at q
      rw [if_pos (by simpa using hb)]; omega
    · have q : 0 ≤ (da - d) * (2 * s - sa) := Int.mul_nonneg (by omega) (by omega)
      rw [Int.mul_sub, Int.sub_mul, Int.sub_mul, show d * (2 * s) = 2 * (s * d) by rw [← Int.mul_assoc, Int.mul_comm d 2, Int.mul_assoc, Int.mul_comm d s], show da * (2 * s) = 2 * (s * da) by rw [← Int.mul_assoc, Int.mul_comm da 2, Int.mul_assoc, Int.mul_comm da s], Int.mul_comm da sa] at q
      rw [if_neg (by simpa using hb)]; omega
  split
  · omega
  split
  · omega
  split
  · omega
  split
  · omega
  · omega
end Go.Proofs.Ytgaabdidddglhaa
