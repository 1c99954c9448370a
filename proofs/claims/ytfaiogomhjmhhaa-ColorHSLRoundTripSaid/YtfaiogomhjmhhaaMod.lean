import Derived.Test.YtfaiogomhjmhhaaClamp
import Derived.Test.YtfaiogomhjmhhaaRows
import Derived.WalkKit
import Derived.WalkSpells
import Derived.WalkLawsBesides
import Derived.Lib.Hide
namespace Go.Proofs.Ytfaiogomhjmhhaa
open Go.RowKit
set_option linter.unusedVariables false
set_option linter.unusedSimpArgs false
def modV (a b : Int) : Int := if b ≤ 0 then 0 else a % b
theorem mod_any (a b : Int) (a0 : -9223372036854775808 ≤ a) (a1 : a ≤ 9223372036854775807) (b1 : b ≤ 9223372036854775807) (w : World) :
    Calls Try.prog 43 #[.int .i64 a, .int .i64 b] w fun e w' => e = .returned (.int .i64 (modV a b)) ∧ w = w' := by
  by_cases h1 : b ≤ 0
  · go_enter Try.func43, Try.ntmps43
    go_wp2
    go_ret
    exact ⟨by simp [modV, h1], rfl⟩
  · have e : modV a b = a % b := by simp [modV, h1]
    rw [e]
    clear e
    have m0 := Int.emod_nonneg a (b := b) (by omega)
    have m1 := Int.emod_lt_of_pos a (b := b) (by omega)
    have t := Int.tmod_eq_emod (a := a) (b := b)
    have hb : (b == 0) = false := by simp; omega
    have hn : (b.natAbs : Int) = b := by omega
    by_cases h2 : 0 ≤ a
    · go_enter Try.func43, Try.ntmps43
      clear t
      go_wp2
      go_ret
      exact ⟨rfl, rfl⟩
    · by_cases h3 : a.tmod b < 0
      · have t2 : a.tmod b = a % b - b := by rw [t] at h3 ⊢; split <;> simp_all <;> omega
        rw [t2] at h3
        clear t
        go_enter Try.func43, Try.ntmps43
        go_wp2
        go_ret
        exact ⟨by congr 2, rfl⟩
      · have t2 : a.tmod b = a % b := by rw [t] at h3 ⊢; split <;> simp_all <;> omega
        rw [t2] at h3
        clear t
        go_enter Try.func43, Try.ntmps43
        go_wp2
        go_ret
        exact ⟨rfl, rfl⟩



end Go.Proofs.Ytfaiogomhjmhhaa
