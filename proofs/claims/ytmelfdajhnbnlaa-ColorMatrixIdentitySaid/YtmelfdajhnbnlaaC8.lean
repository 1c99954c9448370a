
import Derived.Test.YtmelfdajhnbnlaaC7
import Derived.Test.YtmelfdajhnbnlaaMdr
import Derived.Test.YtmelfdajhnbnlaaImc
import Derived.WalkKit
import Derived.WalkSpells
import Derived.WalkLawsBesides
import Derived.Lib.Hide
import Derived.Below
import Derived.Deep.QuietTactic
import Derived.BigQuiet
import Derived.Deep.RegionHeld3
import Derived.Deep.DrawnRows
import Derived.Deep.DeepFit
import Derived.IntWalk
namespace Go.Proofs.Ytmelfdajhnbnlaa
open Go.RowKit
set_option linter.unusedVariables false
set_option linter.unusedSimpArgs false
attribute [local go_sem ↓] Go.wp_at_zero Go.wp_at_succ
attribute [local go_sem] rhoF_tmp rhoF_const rhoF_global rhoF_func

def upm (v a : Int) : Int := mdrV (255 * v) 1 a
theorem upm_bd (v a : Int) (v0 : 0 ≤ v) (v1 : v ≤ a) (a1 : 1 ≤ a) (a2 : a ≤ 255) : 0 ≤ upm v a ∧ upm v a ≤ 255 ∧ mn8 (upm v a) a = v := by
  have hsm : ((255 * v).natAbs : Int) * ((1 : Int).natAbs : Int) ≤ 9223372036854775806 := by
    have : ((1 : Int).natAbs : Int) = 1 := rfl
    rw [this, Int.mul_one]; omega
  have hr := (mdr_small (255 * v) 1 a (by omega) hsm).2
  obtain ⟨r0, r1⟩ := mdM_round (255 * v) a (by omega)
  have b0 := (mdM_bd (255 * v) 1 a 9223372036854775806 (by omega) hsm).1
  have hs : sgn (255 * v) 1 a = false := by
    unfold sgn
    rw [show decide ((1 : Int) < 0) = false by decide, show decide (a < 0) = false by simp; omega, show decide (255 * v < 0) = false by simp; omega]
    rfl
  unfold upm
  rw [hr, hs]
  simp only [Bool.false_eq_true, if_false]
  rw [show ((a.natAbs : Int)) = a by omega, show (((255 * v).natAbs : Int)) = 255 * v by omega] at r0 r1
  obtain ⟨u, hu⟩ : ∃ u, mdM (255 * v) 1 a = u := ⟨_, rfl⟩
  rw [hu] at r0 r1 b0 ⊢
  obtain ⟨m, hm⟩ : ∃ m, u * a = m := ⟨_, rfl⟩
  have h255 : u ≤ 255 := by
    by_cases hc : u ≤ 255
    · exact hc
    · have h1 : 256 * a ≤ u * a := Int.mul_le_mul_of_nonneg_right (by omega) (by omega)
      omega
  refine ⟨b0, h255, ?_⟩
  unfold mn8
  rw [hm] at r0 r1 ⊢
  omega

end Go.Proofs.Ytmelfdajhnbnlaa
