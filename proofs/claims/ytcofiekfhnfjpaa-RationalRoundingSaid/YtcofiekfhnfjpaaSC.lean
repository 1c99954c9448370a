
import Derived.Test.YtcofiekfhnfjpaaSB
import Derived.Deep.CutRange
namespace Go.Proofs.Ytcofiekfhnfjpaa
open Go.RowKit
set_option linter.unusedVariables false
set_option linter.unusedSimpArgs false
attribute [local go_sem ↓] Go.wp_at_zero Go.wp_at_succ
attribute [local go_sem] rhoF_tmp rhoF_const rhoF_global rhoF_func
attribute [local go_sem] qV iV
attribute [local go_sem] qE
theorem small_any (s t : Bool) (a b : Option Addr) (n c m d : Nat) (w : World) (hn : n ≤ 9223372036854775807) (hm : m ≤ 9223372036854775807) :
    Calls Try.prog 8 #[.agg #[.bool s, .slice a n c, .bool t, .slice b m d]] w fun e w' => e = .returned (.bool (decide (n ≤ 40) && decide (m ≤ 40))) ∧ Below w.heap.size w w' := by
  have hb0 := Below.alloc (Below.refl w.heap.size w) (Nat.le_refl _) (.cells #[Value.bool s, Value.slice a n c, Value.bool t, Value.slice b m d] 26)
  by_cases h : n ≤ 40
  · by_cases h2 : m ≤ 40
    · have d1 : decide ((n : Int) ≤ 40) = true := by simp; omega
      have d2 : decide ((m : Int) ≤ 40) = true := by simp; omega
      have e1 : (decide (n ≤ 40) && decide (m ≤ 40)) = true := by simp; omega
      rw [e1]
      go_enter Try.func8, Try.ntmps8
      go_wp2
      go_ret
      exact ⟨rfl, hb0⟩
    · have d1 : decide ((n : Int) ≤ 40) = true := by simp; omega
      have d2 : decide ((m : Int) ≤ 40) = false := by simp; omega
      have e1 : (decide (n ≤ 40) && decide (m ≤ 40)) = false := by simp; omega
      rw [e1]
      go_enter Try.func8, Try.ntmps8
      go_wp2
      go_ret
      exact ⟨rfl, hb0⟩
  · have d1 : decide ((n : Int) ≤ 40) = false := by simp; omega
    have e1 : (decide (n ≤ 40) && decide (m ≤ 40)) = false := by simp; omega
    rw [e1]
    go_enter Try.func8, Try.ntmps8
    go_wp2
    go_ret
    exact ⟨rfl, hb0⟩
end Go.Proofs.Ytcofiekfhnfjpaa
