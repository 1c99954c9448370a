
import Derived.Test.YtmelfdajhnbnlaaEnv
import Derived.Test.YtmelfdajhnbnlaaClamp
import Derived.WalkKit
import Derived.WalkSpells
import Derived.WalkLawsBesides
import Derived.Lib.Hide
import Derived.Below
import Derived.Deep.QuietTactic
import Derived.BigQuiet
import Derived.Deep.RegionHeld3
import Derived.Deep.DrawnRows
import Derived.Deep.DeepFit
import Derived.IntWalk
namespace Go.Proofs.Ytmelfdajhnbnlaa
open Go.RowKit
set_option linter.unusedVariables false
set_option linter.unusedSimpArgs false
attribute [local go_sem ↓] Go.wp_at_zero Go.wp_at_succ
attribute [local go_sem] rhoF_tmp rhoF_const rhoF_global rhoF_func

def mn8 (v k : Int) : Int := (v * k + 127) / 255
theorem mn8_bd (v k : Int) (v0 : 0 ≤ v) (v1 : v ≤ 255) (k0 : 0 ≤ k) (k1 : k ≤ 255) : 0 ≤ v * k ∧ v * k ≤ 65025 ∧ 0 ≤ mn8 v k ∧ mn8 v k ≤ 255 ∧ mn8 v k ≤ v ∧ mn8 v k ≤ k := by
  have p0 : 0 ≤ v * k := Int.mul_nonneg v0 k0
  have p1 : v * k ≤ v * 255 := Int.mul_le_mul_of_nonneg_left k1 v0
  have p2 : v * k ≤ 255 * k := Int.mul_le_mul_of_nonneg_right v1 k0
  unfold mn8; omega
def divN (n : Int) : Int := (clampV n 0 65025 + 127) / 255
theorem divN_bd (n : Int) : 0 ≤ divN n ∧ divN n ≤ 255 := by
  unfold divN
  obtain ⟨a, b⟩ := clampV_bd n 0 65025 (by omega)
  omega

set_option maxHeartbeats 1000000 in
theorem mulNorm8_any (v k : Int) (v0 : 0 ≤ v) (v1 : v ≤ 255) (k0 : 0 ≤ k) (k1 : k ≤ 255) (w : World) :
    Calls Try.prog 16 #[.int .u8 v, .int .u8 k] w fun e w' => e = .returned (.int .u8 (mn8 v k)) ∧ w = w' := by
  obtain ⟨p0, p1, p2, p3, -⟩ := mn8_bd v k v0 v1 k0 k1
  unfold mn8 at p2 p3 ⊢
  go_enter Try.func16, Try.ntmps16
  go_wp2
  go_ret
  exact ⟨rfl, rfl⟩
def vld (r g b a : Int) : Bool := decide (r ≤ a) && decide (g ≤ a) && decide (b ≤ a)
end Go.Proofs.Ytmelfdajhnbnlaa
