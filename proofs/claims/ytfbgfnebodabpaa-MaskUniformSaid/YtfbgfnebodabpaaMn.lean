import Derived.WalkKit
import Derived.WalkSpells
import Derived.WalkLawsBesides
import Derived.Lib.Hide
import Derived.Below
import Derived.IntWalk
import Derived.Test.YtfbgfnebodabpaaRows
namespace Go.Proofs.Ytfbgfnebodabpaa
open Go.RowKit
set_option linter.unusedVariables false
set_option linter.unusedSimpArgs false
def mn8 (v k : Int) : Int := (v * k + 127) / 255
theorem mn8_bd (v k : Int) (v0 : 0 ≤ v) (v1 : v ≤ 255) (k0 : 0 ≤ k) (k1 : k ≤ 255) : 0 ≤ v * k ∧ v * k ≤ 65025 ∧ 0 ≤ mn8 v k ∧ mn8 v k ≤ 255 ∧ mn8 v k ≤ v ∧ mn8 v k ≤ k := by
  have p0 : 0 ≤ v * k := Int.mul_nonneg v0 k0
  have p1 : v * k ≤ v * 255 := Int.mul_le_mul_of_nonneg_left k1 v0
  have p2 : v * k ≤ 255 * k := Int.mul_le_mul_of_nonneg_right v1 k0
  unfold mn8; omega
set_option maxHeartbeats 1000000 in
theorem mulNorm8_any (v k : Int) (v0 : 0 ≤ v) (v1 : v ≤ 255) (k0 : 0 ≤ k) (k1 : k ≤ 255) (w : World) :
    Calls Try.prog 61 #[.int .u8 v, .int .u8 k] w fun e w' => e = .returned (.int .u8 (mn8 v k)) ∧ w = w' := by
  obtain ⟨p0, p1, p2, p3, -⟩ := mn8_bd v k v0 v1 k0 k1
  unfold mn8 at p2 p3 ⊢
  go_enter Try.func61, Try.ntmps61
  go_wp2
  go_ret
  exact ⟨rfl, rfl⟩
set_option maxHeartbeats 1000000 in
theorem rmulNorm8_any (a b : Int) (ha : 0 ≤ a) (ha' : a ≤ 255) (hb : 0 ≤ b) (hb' : b ≤ 255) (w : World) :
    Calls Try.prog 64 #[.int .u8 a, .int .u8 b] w fun e w' => e = .returned (.int .u8 (mn8 a b)) ∧ w = w' := by
  obtain ⟨p0, p1, p2, p3, -⟩ := mn8_bd a b ha ha' hb hb'
  have e1 : 2 * a * b = 2 * (a * b) := Int.mul_assoc 2 a b
  have e2 : (2 * (a * b) + 255) / 510 = (a * b + 127) / 255 := by omega
  unfold mn8 at p2 p3 ⊢
  rw [← e2]
  clear e2
  go_enter Try.func64, Try.ntmps64
  go_wp2
  go_ret
  exact ⟨rfl, rfl⟩
end Go.Proofs.Ytfbgfnebodabpaa
