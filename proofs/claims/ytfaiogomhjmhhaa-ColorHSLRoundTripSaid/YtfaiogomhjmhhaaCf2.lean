import Derived.Test.YtfaiogomhjmhhaaC9
import Derived.WalkKit
import Derived.WalkSpells
import Derived.WalkLawsBesides
import Derived.Lib.Hide
import Derived.Below
import Derived.Deep.QuietTactic
import Derived.BigQuiet
import Derived.Deep.RegionHeld3
import Derived.Deep.DrawnRows
import Derived.Deep.DeepFit
import Derived.IntWalk
namespace Go.Proofs.Ytfaiogomhjmhhaa
open Go.RowKit
set_option linter.unusedVariables false
set_option linter.unusedSimpArgs false
attribute [local go_sem ↓] Go.wp_at_zero Go.wp_at_succ
attribute [local go_sem] rhoF_tmp rhoF_const rhoF_global rhoF_func

set_option maxRecDepth 50000 in
set_option maxHeartbeats 4000000 in
theorem fromHSL_2 (h s l a d lo hi f u v up dn m : Int) (h0 : 0 ≤ h) (s0 : 0 ≤ s) (s1 : s ≤ 255) (l0 : 0 ≤ l) (l1 : l ≤ 510) (a0 : 0 ≤ a) (a1 : a ≤ 255) (hm : min l (510 - l) = m) (hd : mdrV (s * m) 1 255 = d) (d0 : 0 ≤ d) (d1 : d ≤ 255) (hld : l - d = 2 * lo) (lo0 : 0 ≤ lo) (hh : lo + d = hi) (hi1 : hi ≤ 255) (f0 : 0 ≤ f) (f1 : f < 256) (hu : mdrV (d * f) 1 256 = u) (hv : mdrV (d * (256 - f)) 1 256 = v) (hup : lo + u = up) (hdn : lo + v = dn) (u0 : 0 ≤ u) (u1 : up ≤ 255) (v0 : 0 ≤ v) (v1 : dn ≤ 255) (hk : h = 512 + f) (w : World) :
    Calls Try.prog 24 #[.int .i64 h, .int .i64 s, .int .i64 l, .int .u8 a] w fun e w' => e = .returned (.tuple #[.agg #[.int .u8 lo, .int .u8 hi, .int .u8 up, .int .u8 a], .bool true]) ∧ Below w.heap.size w w' := by
  have m1 : (if 510 - l < l then 510 - l else l) = m := by rw [← hm]; omega
  have mb : 0 ≤ m ∧ m ≤ 255 := by omega
  have p0 : 0 ≤ s * m := Int.mul_nonneg s0 mb.1
  have p1 : s * m ≤ 255 * 255 := Int.mul_le_mul s1 mb.2 mb.1 (by omega)
  have q0 : 0 ≤ d * f := Int.mul_nonneg d0 f0
  have q1 : d * f ≤ 255 * 255 := Int.mul_le_mul d1 (by omega) f0 (by omega)
  have r0 : 0 ≤ d * (256 - f) := Int.mul_nonneg d0 (by omega)
  have r1 : d * (256 - f) ≤ 255 * 256 := Int.mul_le_mul d1 (by omega) (by omega) (by omega)
  have c1 := fun w => divRound_any (s * m) 255 (by omega) (by omega) (by omega) (by omega) w
  have c2 := fun w => divRound_any (d * f) 256 (by omega) (by omega) (by omega) (by omega) w
  have c3 := fun w => divRound_any (d * (256 - f)) 256 (by omega) (by omega) (by omega) (by omega) w
  rw [hd] at c1
  rw [hu] at c2
  rw [hv] at c3
  have t1 : (l - d).tdiv 2 = lo := by rw [Int.tdiv_eq_ediv_of_nonneg (by omega)]; omega
  have t2 : h.tmod 256 = f := by rw [Int.tmod_eq_emod_of_nonneg (by omega)]; omega
  have t3 : h.tdiv 256 = 2 := by rw [Int.tdiv_eq_ediv_of_nonneg (by omega)]; omega
  have t4 : (l - d) / 2 = lo := by omega
  have t5 : h % 256 = f := by omega
  have t6 : h / 256 = 2 := by omega
  have g1 : decide (h < 0) = false := by rw [decide_eq_false_iff_not]; omega
  have g2 : decide (1536 ≤ h) = false := by rw [decide_eq_false_iff_not]; omega
  have g3 : decide (s < 0) = false := by rw [decide_eq_false_iff_not]; omega
  have g4 : decide (255 < s) = false := by rw [decide_eq_false_iff_not]; omega
  have g5 : decide (l < 0) = false := by rw [decide_eq_false_iff_not]; omega
  have g6 : decide (510 < l) = false := by rw [decide_eq_false_iff_not]; omega
  clear hd hu hv hk
  go_enter Try.func24, Try.ntmps24
  go_wp2_with (first | (go_at_call 42; (with_reducible refine (c1 _).mono ?_); rintro e w9 ⟨rfl, nd, rfl⟩) | (go_at_call 42; (with_reducible refine (c2 _).mono ?_); rintro e w9 ⟨rfl, nd, rfl⟩) | (go_at_call 42; (with_reducible refine (c3 _).mono ?_); rintro e w9 ⟨rfl, nd, rfl⟩))
  refine bodyPost_ret (v := .tuple #[.agg #[.int .u8 lo, .int .u8 hi, .int .u8 up, .int .u8 a], .bool true]) (by simp [results, Try.results24, go_sem, *]) rfl ⟨rfl, ?_⟩
  repeat (first | with_reducible exact Below.refl _ _ | fail | with_reducible apply below_drewN | with_reducible apply Below.drew | (with_reducible refine Below.alloc ?_ (by first | (simp; done) | (simp; omega) | omega) _) | (with_reducible refine Below.setCell ?_ (by first | (simp; done) | (simp; omega) | omega) _))
end Go.Proofs.Ytfaiogomhjmhhaa
