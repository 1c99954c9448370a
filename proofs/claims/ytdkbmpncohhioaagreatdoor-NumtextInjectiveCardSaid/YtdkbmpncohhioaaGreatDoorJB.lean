
import Derived.Test.YtdkbmpncohhioaaGreatDoorJA
import Derived.Test.YtdkbmpncohhioaaGreatDoorUB
namespace Go.Proofs.YtdkbmpncohhioaaGreatDoor
open Go.RowKit
set_option linter.unusedVariables false
set_option linter.unusedSimpArgs false
attribute [local go_sem ↓] Go.wp_at_zero Go.wp_at_succ
/-- Normalized: both parts are, the denominator is positive, and they have no common divisor. -/
def rnB (s t : Bool) (l k : List (BitVec 32)) : Bool := isnV s l && (isnV t k && (decide (0 < zv t (valD k)) && (Nat.gcd (valD l) (valD k) == 1)))
theorem isBl_one {v b : Nat} (h : IsBl v b) : ((b : Int) == 1) = (v == 1) := by
  obtain ⟨h1, h2, h3⟩ := h
  rw [Bool.eq_iff_iff, beq_iff_eq, beq_iff_eq]
  constructor
  · intro hb
    have e : b = 1 := by omega
    rw [e] at h1 h2
    have hv : v ≠ 0 := fun e => by have := h2 e; omega
    have : v < 2 := h1
    omega
  · intro hv
    have h4 := h3 (by omega)
    by_cases h5 : 2 ≤ b
    · have h6 := Nat.pow_le_pow_right (show 0 < 2 by omega) (show 1 ≤ b - 1 by omega)
      have h7 : (2 : Nat) ^ 1 = 2 := rfl
      omega
    · omega
theorem one_rd (W : World) : Rw (W.alloc (.cells #[.int .u32 1, .int .u32 0] 42)) (some ⟨W.heap.size, 0, none⟩) [1#32, 0#32] := Rw.of_cells (heap_alloc_new W _) (by simp [bv32])
end Go.Proofs.YtdkbmpncohhioaaGreatDoor
