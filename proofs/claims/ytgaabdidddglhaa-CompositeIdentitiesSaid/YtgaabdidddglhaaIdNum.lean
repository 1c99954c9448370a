import Derived.Test.YtgaabdidddglhaaM4
namespace Go.Proofs.Ytgaabdidddglhaa
set_option linter.unusedVariables false
set_option linter.unusedSimpArgs false
/- plain facts: the operators on clamped components -/
theorem divN_255c (x : Int) (h0 : 0 ≤ x) (h1 : x ≤ 255) : divN (x * 255) = x := by
  unfold divN clampV; rw [if_neg (by omega), if_neg (by omega)]; omega
theorem divN_val {x : Int} (h0 : 0 ≤ x) (h1 : x ≤ 65025) : divN x = (x + 127) / 255 := by
  unfold divN clampV; rw [if_neg (by omega), if_neg (by omega)]
theorem divN_big {x : Int} (h1 : 65025 ≤ x) : divN x = 255 := by
  unfold divN clampV; rw [if_neg (by omega)]; split <;> omega
theorem cp_clear (v w s d : Int) : cpv v w (fac1 1 s d) (ff2 1 s d) = 0 := by
  rw [show fac1 1 s d = 0 by simp [fac1], show ff2 1 s d = 0 by simp [ff2, fac2]]; unfold cpv; rw [Int.mul_zero, Int.mul_zero]; decide
theorem cp_source (v w s d : Int) (h0 : 0 ≤ v) (h1 : v ≤ 255) : cpv v w (fac1 2 s d) (ff2 2 s d) = v := by
  rw [show fac1 2 s d = 255 by simp [fac1], show ff2 2 s d = 0 by simp [ff2, fac2]]; unfold cpv; rw [Int.mul_zero, Int.add_zero, divN_255c v h0 h1]
theorem cp_in (v w s d : Int) : cpv v w (fac1 4 s d) (ff2 4 s d) = divN (v * d) := by
  rw [show fac1 4 s d = d by simp [fac1], show ff2 4 s d = 0 by simp [ff2, fac2]]; unfold cpv; rw [Int.mul_zero, Int.add_zero]
theorem cp_out (v w s d : Int) : cpv v w (fac1 5 s d) (ff2 5 s d) = divN (v * (255 - d)) := by
  rw [show fac1 5 s d = 255 - d by simp [fac1], show ff2 5 s d = 0 by simp [ff2, fac2]]; unfold cpv; rw [Int.mul_zero, Int.add_zero]
theorem cp_destin (v w s d : Int) : cpv v w (fac1 9 s d) (ff2 9 s d) = divN (w * s) := by
  rw [show fac1 9 s d = 0 by simp [fac1], show ff2 9 s d = s by simp [ff2, fac2]]; unfold cpv; rw [Int.mul_zero, Int.zero_add]
theorem cp_destout (v w s d : Int) : cpv v w (fac1 10 s d) (ff2 10 s d) = divN (w * (255 - s)) := by
  rw [show fac1 10 s d = 0 by simp [fac1], show ff2 10 s d = 255 - s by simp [ff2, fac2]]; unfold cpv; rw [Int.mul_zero, Int.zero_add]
theorem cp_xor (v w s d : Int) : cpv v w (fac1 7 s d) (ff2 7 s d) = divN (v * (255 - d) + w * (255 - s)) := by
  rw [show fac1 7 s d = 255 - d by simp [fac1], show ff2 7 s d = 255 - s by simp [ff2, fac2]]; rfl
theorem cp_plus (v w s d : Int) : cpv v w (fac1 8 s d) (ff2 8 s d) = divN (v * 255 + w * 255) := by
  rw [show fac1 8 s d = 255 by simp [fac1], show ff2 8 s d = 255 by simp [ff2, fac2]]; rfl
theorem cp_atop (v w s d : Int) : cpv v w (fac1 6 s d) (ff2 6 s d) = divN (v * d + w * (255 - s)) := by
  rw [show fac1 6 s d = d by simp [fac1], show ff2 6 s d = 255 - s by simp [ff2, fac2]]; rfl
theorem cp_over (v w s d : Int) : cpv v w (fac1 3 s d) (ff2 3 s d) = divN (v * 255 + w * (255 - s)) := by
  rw [show fac1 3 s d = 255 by simp [fac1], show ff2 3 s d = 255 - s by simp [ff2, fac2]]; rfl
theorem xor_comm (v w s d : Int) : divN (w * (255 - s) + v * (255 - d)) = divN (v * (255 - d) + w * (255 - s)) := by rw [Int.add_comm]
theorem plus_comm (v w : Int) : divN (w * 255 + v * 255) = divN (v * 255 + w * 255) := by rw [Int.add_comm]
theorem plus_ge (v w : Int) (v0 : 0 ≤ v) (v1 : v ≤ 255) (w0 : 0 ≤ w) (w1 : w ≤ 255) : v ≤ divN (v * 255 + w * 255) ∧ w ≤ divN (v * 255 + w * 255) ∧ divN (v * 255 + w * 255) ≤ 255 := by
  by_cases h : v * 255 + w * 255 ≤ 65025
  · rw [divN_val (by omega) h]; omega
  · rw [divN_big (by omega)]; omega
theorem in_out_bd (a d : Int) (a0 : 0 ≤ a) (a1 : a ≤ 255) (d0 : 0 ≤ d) (d1 : d ≤ 255) : divN (a * d) ≤ a ∧ divN (a * (255 - d)) ≤ a ∧ 0 ≤ divN (a * d) ∧ 0 ≤ divN (a * (255 - d)) ∧ -1 ≤ a - divN (a * d) - divN (a * (255 - d)) ∧ a - divN (a * d) - divN (a * (255 - d)) ≤ 1 := by
  have p0 := Int.mul_nonneg a0 d0
  have p1 : a * d ≤ a * 255 := Int.mul_le_mul_of_nonneg_left d1 a0
  have e : a * (255 - d) = a * 255 - a * d := Int.mul_sub _ _ _
  rw [divN_val p0 (by omega), divN_val (by omega) (by omega)]
  omega
end Go.Proofs.Ytgaabdidddglhaa
