
import Derived.Test.YtmelfdajhnbnlaaC1
import Derived.WalkKit
import Derived.WalkSpells
import Derived.WalkLawsBesides
import Derived.Lib.Hide
import Derived.Below
import Derived.Deep.QuietTactic
import Derived.BigQuiet
import Derived.Deep.RegionHeld3
import Derived.Deep.DrawnRows
import Derived.Deep.DeepFit
import Derived.IntWalk
namespace Go.Proofs.Ytmelfdajhnbnlaa
open Go.RowKit
set_option linter.unusedVariables false
set_option linter.unusedSimpArgs false
attribute [local go_sem ↓] Go.wp_at_zero Go.wp_at_succ
attribute [local go_sem] rhoF_tmp rhoF_const rhoF_global rhoF_func

def lrp (v x k : Int) : Int := divN (v * (255 - k) + x * k)
theorem lrp_bd (v x k : Int) (v0 : 0 ≤ v) (v1 : v ≤ 255) (x0 : 0 ≤ x) (x1 : x ≤ 255) (k0 : 0 ≤ k) (k1 : k ≤ 255) : 0 ≤ v * (255 - k) ∧ v * (255 - k) ≤ 65025 ∧ 0 ≤ x * k ∧ x * k ≤ 65025 ∧ 0 ≤ lrp v x k ∧ lrp v x k ≤ 255 := by
  have a0 : 0 ≤ v * (255 - k) := Int.mul_nonneg v0 (by omega)
  have a1 : v * (255 - k) ≤ 255 * 255 := Int.mul_le_mul v1 (by omega) (by omega) (by omega)
  have b0 : 0 ≤ x * k := Int.mul_nonneg x0 k0
  have b1 : x * k ≤ 255 * 255 := Int.mul_le_mul x1 k1 k0 (by omega)
  obtain ⟨c, d⟩ := divN_bd (v * (255 - k) + x * k)
  unfold lrp
  omega
theorem divN_mono {m n : Int} (h : m ≤ n) : divN m ≤ divN n := by
  unfold divN clampV
  split <;> split <;> (try split) <;> (try split) <;> omega
theorem lrp_mono (v a x d k : Int) (h1 : v ≤ a) (h2 : x ≤ d) (k0 : 0 ≤ k) (k1 : k ≤ 255) : lrp v x k ≤ lrp a d k := by
  unfold lrp
  apply divN_mono
  have a1 : v * (255 - k) ≤ a * (255 - k) := Int.mul_le_mul_of_nonneg_right h1 (by omega)
  have b1 : x * k ≤ d * k := Int.mul_le_mul_of_nonneg_right h2 k0
  omega
theorem mn8_mono (v a k : Int) (h : v ≤ a) (k0 : 0 ≤ k) : mn8 v k ≤ mn8 a k := by
  have : v * k ≤ a * k := Int.mul_le_mul_of_nonneg_right h k0
  unfold mn8
  omega
theorem divN_at (n : Int) (h0 : 0 ≤ n) (h1 : n ≤ 255) : divN (n * 255) = n := by
  unfold divN clampV
  rw [if_neg (by omega), if_neg (by omega)]
  omega
theorem lrp_zero (v x : Int) (v0 : 0 ≤ v) (v1 : v ≤ 255) : lrp v x 0 = v := by
  unfold lrp
  rw [show v * (255 - 0) + x * 0 = v * 255 by omega]
  exact divN_at v v0 v1
theorem lrp_full (v x : Int) (x0 : 0 ≤ x) (x1 : x ≤ 255) : lrp v x 255 = x := by
  unfold lrp
  rw [show v * (255 - 255) + x * 255 = x * 255 by omega]
  exact divN_at x x0 x1
theorem mn8_full (v : Int) (v0 : 0 ≤ v) (v1 : v ≤ 255) : mn8 v 255 = v := by unfold mn8; omega
theorem mn8_zero (v : Int) : mn8 v 0 = 0 := by unfold mn8; omega

end Go.Proofs.Ytmelfdajhnbnlaa
