
import Derived.Test.YtdkbmpncohhioaaDoorJ9
import Derived.Test.YtdkbmpncohhioaaDoorUC
namespace Go.Proofs.YtdkbmpncohhioaaDoor
open Go.RowKit
set_option linter.unusedVariables false
set_option linter.unusedSimpArgs false
attribute [local go_sem ↓] Go.wp_at_zero Go.wp_at_succ
theorem fdiv_dvd (x : Int) (g : Nat) (hg : g ∣ x.natAbs) : x.fdiv (g : Int) = zv (decide (x < 0)) (x.natAbs / g) := by
  obtain ⟨q, hq⟩ := hg
  rcases Nat.eq_zero_or_pos g with h0 | h0
  · subst h0
    have : x = 0 := by simpa using hq
    subst this
    rfl
  · have hd : x.natAbs / g = q := by rw [hq]; exact Nat.mul_div_cancel_left q h0
    rw [hd]
    have hx : x = zv (decide (x < 0)) (g * q) := by rw [← hq]; exact (zv_of x).symm
    by_cases h : x < 0
    · rw [decide_eq_true h] at hx ⊢
      conv => lhs; rw [hx]
      show Int.fdiv (-((g * q : Nat) : Int)) (g : Int) = -(q : Int)
      rw [show -((g * q : Nat) : Int) = (g : Int) * (-(q : Int)) by rw [Int.natCast_mul, Int.mul_neg]]
      exact Int.mul_fdiv_cancel_left _ (by omega)
    · rw [decide_eq_false h] at hx ⊢
      conv => lhs; rw [hx]
      show Int.fdiv (((g * q : Nat) : Int)) (g : Int) = (q : Int)
      rw [Int.natCast_mul]
      exact Int.mul_fdiv_cancel_left _ (by omega)
theorem FrG.later {w w1 w2 : World} {x y : Int} {e : Ending} (h : FrG w x y e w1) (hb : Below w1.heap.size w1 w2) : FrG w x y e w2 := by
  obtain ⟨a, c, b, d, h1, h2, h3, h4⟩ := h
  exact ⟨a, c, b, d, h1, h2.below hb, h3.below hb, h4.trans (hb.mono h4.size)⟩
theorem FrG.later2 {w w1 : World} {x y : Int} {e : Ending} (h : FrG w x y e w1) (o p : Obj) : FrG w x y e ((w1.alloc o).alloc p) :=
  (h.later (Below.alloc (Below.refl _ _) (Nat.le_refl _) o)).later (Below.alloc (Below.refl _ _) (Nat.le_refl _) p)
theorem nat_false (v : Nat) : decide (((v : Nat) : Int) < 0) = false := by simp
end Go.Proofs.YtdkbmpncohhioaaDoor
