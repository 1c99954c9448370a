import Derived.Test.YtdhajiaepaamgaaDoorB4
namespace Go.Proofs.YtdhajiaepaamgaaDoor
set_option linter.unusedVariables false
set_option linter.unusedSimpArgs false
/- plain facts: the symmetries of the terms; opaque operands -/
theorem unc_comm (v sa u da : Int) : unc u da v sa = unc v sa u da := by unfold unc; omega
theorem lgt_comm (b : Bool) (v sa u da : Int) : lgt b u da v sa = lgt b v sa u da := by
  unfold lgt
  cases b with
  | true => simp only [if_true]; rw [Int.mul_assoc, Int.mul_assoc, Int.mul_comm u v]
  | false =>
    simp only [Bool.false_eq_true, if_false]
    rw [Int.mul_comm da sa, Int.mul_assoc, Int.mul_assoc, Int.mul_comm (sa - v)]
theorem termF_49 (v sa u da : Int) : termF 4 u da v sa = termF 9 v sa u da := by
  unfold termF
  by_cases h : v < 0 ∨ sa < v ∨ 255 < sa ∨ u < 0 ∨ da < u ∨ 255 < da
  · rw [if_pos h, if_pos (by omega)]
  · rw [if_neg h, if_neg (by omega)]
    rw [show trm 4 u da v sa = lgt (decide (2 * v ≤ sa)) u da v sa by simp [trm], show trm 9 v sa u da = lgt (decide (2 * v ≤ sa)) v sa u da by simp [trm], lgt_comm]
theorem termF_comm (m v sa u da : Int) (hm : m = 2 ∨ m = 3 ∨ m = 5 ∨ m = 6 ∨ m = 7 ∨ m = 8) : termF m u da v sa = termF m v sa u da := by
  unfold termF
  by_cases h : v < 0 ∨ sa < v ∨ 255 < sa ∨ u < 0 ∨ da < u ∨ 255 < da
  · rw [if_pos h, if_pos (by omega)]
  · rw [if_neg h, if_neg (by omega)]
    have e1 : u * v = v * u := Int.mul_comm _ _
    have e2 : 2 * u * v = 2 * v * u := by rw [Int.mul_assoc, Int.mul_assoc, e1]
    rcases hm with rfl | rfl | rfl | rfl | rfl | rfl <;> simp only [trm] <;> simp <;> omega
theorem bc_49 (v sa u da : Int) : bc 4 u da v sa = bc 9 v sa u da := by unfold bc; rw [unc_comm, termF_49]
theorem bc_comm (m v sa u da : Int) (hm : m = 2 ∨ m = 3 ∨ m = 5 ∨ m = 6 ∨ m = 7 ∨ m = 8) : bc m u da v sa = bc m v sa u da := by unfold bc; rw [unc_comm, termF_comm m v sa u da hm]
theorem al_comm (a d : Int) : divN (unc d d a a + d * a) = divN (unc a a d d + a * d) := by rw [unc_comm a a d d, Int.mul_comm d a]
theorem divN_255 (x : Int) (h0 : 0 ≤ x) (h1 : x ≤ 255) : divN (255 * x) = x := by
  unfold divN clampV; rw [if_neg (by omega), if_neg (by omega)]; omega
theorem op_1 (x y : Int) (h0 : 0 ≤ x) (h1 : x ≤ 255) (g0 : 0 ≤ y) (g1 : y ≤ 255) : bc 1 (min x 255) 255 (min y 255) 255 = x := by
  rw [show min x 255 = x by omega, show min y 255 = y by omega]
  unfold bc; rw [termF_in (by omega)]
  rw [show unc x 255 y 255 + trm 1 x 255 y 255 = 255 * x by unfold unc; simp [trm]; omega]; exact divN_255 x h0 h1
theorem op_2 (y : Int) (g0 : 0 ≤ y) (g1 : y ≤ 255) : bc 2 (min 255 255) 255 (min y 255) 255 = y := by
  rw [show min y 255 = y by omega, show min (255 : Int) 255 = 255 by decide]
  unfold bc; rw [termF_in (by omega)]
  rw [show unc 255 255 y 255 + trm 2 255 255 y 255 = 255 * y by unfold unc; simp [trm]]; exact divN_255 y g0 g1
theorem op_3 (y : Int) (g0 : 0 ≤ y) (g1 : y ≤ 255) : bc 3 (min 0 255) 255 (min y 255) 255 = y := by
  rw [show min y 255 = y by omega, show min (0 : Int) 255 = 0 by decide]
  unfold bc; rw [termF_in (by omega)]
  rw [show unc 0 255 y 255 + trm 3 0 255 y 255 = 255 * y by unfold unc; simp [trm]; omega]; exact divN_255 y g0 g1
theorem op_7 (y : Int) (g0 : 0 ≤ y) (g1 : y ≤ 255) : bc 7 (min 0 255) 255 (min y 255) 255 = y := by
  rw [show min y 255 = y by omega, show min (0 : Int) 255 = 0 by decide]
  unfold bc; rw [termF_in (by omega)]
  rw [show unc 0 255 y 255 + trm 7 0 255 y 255 = 255 * y by unfold unc; simp [trm]; omega]; exact divN_255 y g0 g1
theorem op_8 (y : Int) (g0 : 0 ≤ y) (g1 : y ≤ 255) : bc 7 (min y 255) 255 (min y 255) 255 = 0 := by
  rw [show min y 255 = y by omega]
  unfold bc; rw [termF_in (by omega)]
  rw [show unc y 255 y 255 + trm 7 y 255 y 255 = 0 by unfold unc; simp [trm]]; decide
theorem op_a : divN (unc 255 255 255 255 + 255 * 255) = 255 := by decide
end Go.Proofs.YtdhajiaepaamgaaDoor
