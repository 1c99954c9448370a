import Derived.Test.YtfaiogomhjmhhaaEnv
import Derived.Test.YtfaiogomhjmhhaaClamp
import Derived.WalkKit
import Derived.WalkSpells
import Derived.WalkLawsBesides
import Derived.Lib.Hide
import Derived.Below
import Derived.Deep.QuietTactic
import Derived.BigQuiet
import Derived.Deep.RegionHeld3
import Derived.Deep.DrawnRows
import Derived.Deep.DeepFit
import Derived.IntWalk
namespace Go.Proofs.Ytfaiogomhjmhhaa
open Go.RowKit
set_option linter.unusedVariables false
set_option linter.unusedSimpArgs false
attribute [local go_sem ↓] Go.wp_at_zero Go.wp_at_succ
attribute [local go_sem] rhoF_tmp rhoF_const rhoF_global rhoF_func

def mn8 (v k : Int) : Int := (v * k + 127) / 255
theorem mn8_bd (v k : Int) (v0 : 0 ≤ v) (v1 : v ≤ 255) (k0 : 0 ≤ k) (k1 : k ≤ 255) : 0 ≤ v * k ∧ v * k ≤ 65025 ∧ 0 ≤ mn8 v k ∧ mn8 v k ≤ 255 ∧ mn8 v k ≤ v ∧ mn8 v k ≤ k := by
  have p0 : 0 ≤ v * k := Int.mul_nonneg v0 k0
  have p1 : v * k ≤ v * 255 := Int.mul_le_mul_of_nonneg_left k1 v0
  have p2 : v * k ≤ 255 * k := Int.mul_le_mul_of_nonneg_right v1 k0
  unfold mn8; omega
def divN (n : Int) : Int := (clampV n 0 65025 + 127) / 255
theorem divN_bd (n : Int) : 0 ≤ divN n ∧ divN n ≤ 255 := by
  unfold divN
  obtain ⟨a, b⟩ := clampV_bd n 0 65025 (by omega)
  omega

set_option maxHeartbeats 1000000 in
theorem mulNorm8_any (v k : Int) (v0 : 0 ≤ v) (v1 : v ≤ 255) (k0 : 0 ≤ k) (k1 : k ≤ 255) (w : World) :
    Calls Try.prog 29 #[.int .u8 v, .int .u8 k] w fun e w' => e = .returned (.int .u8 (mn8 v k)) ∧ w = w' := by
  obtain ⟨p0, p1, p2, p3, -⟩ := mn8_bd v k v0 v1 k0 k1
  unfold mn8 at p2 p3 ⊢
  go_enter Try.func29, Try.ntmps29
  go_wp2
  go_ret
  exact ⟨rfl, rfl⟩
set_option maxHeartbeats 1000000 in
theorem rmulNorm8_any (a b : Int) (ha : 0 ≤ a) (ha' : a ≤ 255) (hb : 0 ≤ b) (hb' : b ≤ 255) (w : World) :
    Calls Try.prog 30 #[.int .u8 a, .int .u8 b] w fun e w' => e = .returned (.int .u8 (mn8 a b)) ∧ w = w' := by
  obtain ⟨p0, p1, p2, p3, -⟩ := mn8_bd a b ha ha' hb hb'
  have e1 : 2 * a * b = 2 * (a * b) := Int.mul_assoc 2 a b
  have e2 : (2 * (a * b) + 255) / 510 = (a * b + 127) / 255 := by omega
  unfold mn8 at p2 p3 ⊢
  rw [← e2]
  clear e2
  go_enter Try.func30, Try.ntmps30
  go_wp2
  go_ret
  exact ⟨rfl, rfl⟩
theorem divNorm8_any (n : Int) (w : World) :
    Calls Try.prog 36 #[.int .i64 n] w fun e w' => e = .returned (.int .u8 (divN n)) ∧ w = w' := by
  obtain ⟨h0, h1⟩ := clampV_bd n 0 65025 (by omega)
  go_enter Try.func36, Try.ntmps36
  go_wp2_with (go_at_call 44; (with_reducible refine (clamp_any n 0 65025 _).mono ?_); rintro e w' ⟨rfl, rfl⟩)
  go_ret
  exact ⟨rfl, rfl⟩
theorem rdivNorm8_any (n : Int) (w : World) :
    Calls Try.prog 48 #[.int .i64 n] w fun e w' => e = .returned (.int .u8 (divN n)) ∧ w = w' := by
  by_cases h1 : n < 0
  · have e : divN n = 0 := by unfold divN clampV; rw [if_pos h1]; omega
    rw [e]; clear e
    go_enter Try.func48, Try.ntmps48
    go_wp2
    go_ret
    exact ⟨rfl, rfl⟩
  · by_cases h2 : 65025 < n
    · have e : divN n = 255 := by unfold divN clampV; rw [if_neg h1, if_pos h2]; omega
      rw [e]; clear e
      go_enter Try.func48, Try.ntmps48
      go_wp2
      go_ret
      exact ⟨rfl, rfl⟩
    · have e : divN n = (2 * n + 255) / 510 := by unfold divN clampV; rw [if_neg h1, if_neg h2]; omega
      rw [e]; clear e
      go_enter Try.func48, Try.ntmps48
      go_wp2
      go_ret
      exact ⟨rfl, rfl⟩

set_option maxHeartbeats 1000000 in
theorem pclamp_any (r g b a cr cg cb : Int) (hr : min r a = cr) (hg : min g a = cg) (hb : min b a = cb) (w : World) :
    Calls Try.prog 21 #[.agg #[.int .u8 r, .int .u8 g, .int .u8 b, .int .u8 a]] w fun e w' => e = .returned (.agg #[.int .u8 cr, .int .u8 cg, .int .u8 cb, .int .u8 a]) ∧ Below w.heap.size w w' := by
  have gr : (if a < r then a else r) = cr := by rw [← hr]; omega
  have gg : (if a < g then a else g) = cg := by rw [← hg]; omega
  have gb : (if a < b then a else b) = cb := by rw [← hb]; omega
  go_enter Try.func21, Try.ntmps21
  go_wp2
  refine bodyPost_ret (v := .agg #[.int .u8 cr, .int .u8 cg, .int .u8 cb, .int .u8 a]) (by simp [results, Try.results21, go_sem, *]) rfl ⟨rfl, ?_⟩
  repeat (first | with_reducible exact Below.refl _ _ | fail | with_reducible apply below_drewN | with_reducible apply Below.drew | (with_reducible refine Below.alloc ?_ (by first | (simp; done) | (simp; omega) | omega) _) | (with_reducible refine Below.setCell ?_ (by first | (simp; done) | (simp; omega) | omega) _))

def vld (r g b a : Int) : Bool := decide (r ≤ a) && decide (g ≤ a) && decide (b ≤ a)
end Go.Proofs.Ytfaiogomhjmhhaa
