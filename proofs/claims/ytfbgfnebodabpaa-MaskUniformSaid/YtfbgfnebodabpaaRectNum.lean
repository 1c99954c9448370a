
import Init
namespace Go.Proofs.Ytfbgfnebodabpaa
set_option linter.unusedVariables false
set_option linter.unusedSimpArgs false
/- plain facts on rectangles -/
def inR (x : Int) : Bool := decide (-4096 ≤ x) && decide (x ≤ 4096)
def vR (a b c d : Int) : Bool := inR a && inR b && inR c && inR d
def eR (a b c d : Int) : Bool := !vR a b c d || decide (c ≤ a) || decide (d ≤ b)
def cn (e : Bool) (x : Int) : Int := if e = true then 0 else x
theorem inR_iff (x : Int) : inR x = true ↔ -4096 ≤ x ∧ x ≤ 4096 := by simp [inR]
theorem vR_iff (a b c d : Int) : vR a b c d = true ↔ (-4096 ≤ a ∧ a ≤ 4096) ∧ (-4096 ≤ b ∧ b ≤ 4096) ∧ (-4096 ≤ c ∧ c ≤ 4096) ∧ (-4096 ≤ d ∧ d ≤ 4096) := by
  simp [vR, inR]; omega
theorem eR_false (a b c d : Int) : eR a b c d = false ↔ (-4096 ≤ a ∧ a ≤ 4096) ∧ (-4096 ≤ b ∧ b ≤ 4096) ∧ (-4096 ≤ c ∧ c ≤ 4096) ∧ (-4096 ≤ d ∧ d ≤ 4096) ∧ a < c ∧ b < d := by
  unfold eR
  have := vR_iff a b c d
  cases h : vR a b c d with
  | false => rw [h] at this; simp at this ⊢; omega
  | true => rw [h] at this; simp at this ⊢; omega
theorem cn_true (x : Int) : cn true x = 0 := rfl
theorem cn_false (x : Int) : cn false x = x := rfl
theorem cn_bd (a b c d : Int) : (-4096 ≤ cn (eR a b c d) a ∧ cn (eR a b c d) a ≤ 4096) ∧ (-4096 ≤ cn (eR a b c d) b ∧ cn (eR a b c d) b ≤ 4096) ∧ (-4096 ≤ cn (eR a b c d) c ∧ cn (eR a b c d) c ≤ 4096) ∧ (-4096 ≤ cn (eR a b c d) d ∧ cn (eR a b c d) d ≤ 4096) := by
  cases h : eR a b c d with
  | true => simp [cn]
  | false => have := (eR_false a b c d).1 h; simp only [cn_false]; omega
def ctB (a b c d x y : Int) : Bool := !eR a b c d && decide (a ≤ x) && decide (x < c) && decide (b ≤ y) && decide (y < d)
theorem ctB_cn (a b c d x y : Int) : (decide (cn (eR a b c d) a ≤ x) && decide (x < cn (eR a b c d) c) && decide (cn (eR a b c d) b ≤ y) && decide (y < cn (eR a b c d) d)) = ctB a b c d x y := by
  unfold ctB
  cases h : eR a b c d with
  | true => simp [cn] <;> omega
  | false => simp [cn]
def pxV (a b c d x y : Int) : Int := if ctB a b c d x y = true then (y - b) * (c - a) + x - a else -1
end Go.Proofs.Ytfbgfnebodabpaa
