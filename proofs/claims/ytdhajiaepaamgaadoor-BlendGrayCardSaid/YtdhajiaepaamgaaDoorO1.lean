import Derived.Test.YtdhajiaepaamgaaDoorOpqNum
import Derived.Test.YtdhajiaepaamgaaDoorBX
import Derived.WalkKit
import Derived.Deep.CutRange
import Derived.WalkSpells
import Derived.WalkLawsBesides
import Derived.Lib.Hide
import Derived.Below
import Derived.Deep.QuietTactic
import Derived.BigQuiet
import Derived.Deep.RegionHeld3
import Derived.Deep.DrawnRows
import Derived.Deep.DeepFit
import Derived.IntWalk
namespace Go.Proofs.YtdhajiaepaamgaaDoor
open Go.RowKit
set_option linter.unusedVariables false
set_option linter.unusedSimpArgs false
attribute [local go_sem ↓] Go.wp_at_zero Go.wp_at_succ
attribute [local go_sem] rhoF_tmp rhoF_const rhoF_global rhoF_func

set_option maxHeartbeats 1000000 in
theorem luma_any (r g b a : Int) (r0 : 0 ≤ r) (r1 : r ≤ 255) (g0 : 0 ≤ g) (g1 : g ≤ 255) (b0 : 0 ≤ b) (b1 : b ≤ 255) (a0 : 0 ≤ a) (a1 : a ≤ 255) (w : World) :
    Calls Tryd.prog 27 #[.agg #[.int .u8 r, .int .u8 g, .int .u8 b, .int .u8 a]] w fun e w' => e = .returned (.int .i64 (30 * r + 59 * g + 11 * b)) ∧ Below w.heap.size w w' := by
  go_enter Tryd.func27, Tryd.ntmps27
  go_wp2
  go_ret
  refine ⟨rfl, ?_⟩
  repeat (first | with_reducible exact Below.refl _ _ | fail | with_reducible apply below_drewN | with_reducible apply Below.drew | (with_reducible refine Below.alloc ?_ (by first | (simp; done) | (simp; omega) | omega) _) | (with_reducible refine Below.setCell ?_ (by first | (simp; done) | (simp; omega) | omega) _))

set_option maxHeartbeats 1000000 in
theorem near_any (x y : Int) (h0 : -50 ≤ x - y) (h1 : x - y ≤ 50) (b0 : -100000 ≤ x) (b1 : x ≤ 100000) (b2 : -100000 ≤ y) (b3 : y ≤ 100000) (w : World) :
    Calls Tryd.prog 26 #[.int .i64 x, .int .i64 y] w fun e w' => e = .returned (.bool true) ∧ w = w' := by
  obtain ⟨m, hm⟩ : ∃ z, max (x - y) (y - x) = z := ⟨_, rfl⟩
  have g : (if x - y < y - x then y - x else x - y) = m := by rw [← hm]; omega
  have mb : m ≤ 50 := by omega
  go_enter Tryd.func26, Tryd.ntmps26
  go_wp2
  go_ret
  exact ⟨rfl, rfl⟩

theorem opq_ex (m r g b s t u : Int) (hm : m = 10 ∨ m = 11 ∨ m = 12 ∨ m = 13) (r0 : 0 ≤ r) (r1 : r ≤ 255) (g0 : 0 ≤ g) (g1 : g ≤ 255) (b0 : 0 ≤ b) (b1 : b ≤ 255) (s0 : 0 ≤ s) (s1 : s ≤ 255) (t0 : 0 ≤ t) (t1 : t ≤ 255) (u0 : 0 ≤ u) (u1 : u ≤ 255) :
    ∃ q0 q1 q2 : Int, (0 ≤ q0 ∧ q0 ≤ 255) ∧ (0 ≤ q1 ∧ q1 ≤ 255) ∧ (0 ≤ q2 ∧ q2 ≤ 255) ∧ (-50 ≤ 30 * q0 + 59 * q1 + 11 * q2 - (if m = 13 then 30 * r + 59 * g + 11 * b else 30 * s + 59 * t + 11 * u) ∧ 30 * q0 + 59 * q1 + 11 * q2 - (if m = 13 then 30 * r + 59 * g + 11 * b else 30 * s + 59 * t + 11 * u) ≤ 50) ∧
      ∀ w : World, Calls Tryd.prog 23 #[.int .i64 m, .agg #[.int .u8 r, .int .u8 g, .int .u8 b, .int .u8 255], .agg #[.int .u8 s, .int .u8 t, .int .u8 u, .int .u8 255]] w fun e w' => e = .returned (.agg #[.int .u8 q0, .int .u8 q1, .int .u8 q2, .int .u8 255]) ∧ Below w.heap.size w w' := by
  have hA0 : 0 ≤ 255 * min r 255 ∧ 255 * min r 255 ≤ 255 * 255 := by omega
  have hA1 : 0 ≤ 255 * min g 255 ∧ 255 * min g 255 ≤ 255 * 255 := by omega
  have hA2 : 0 ≤ 255 * min b 255 ∧ 255 * min b 255 ≤ 255 * 255 := by omega
  have hB0 : 0 ≤ 255 * min s 255 ∧ 255 * min s 255 ≤ 255 * 255 := by omega
  have hB1 : 0 ≤ 255 * min t 255 ∧ 255 * min t 255 ≤ 255 * 255 := by omega
  have hB2 : 0 ≤ 255 * min u 255 ∧ 255 * min u 255 ≤ 255 * 255 := by omega
  have sA := st3_bd hA0 hA1 hA2
  have sB := st3_bd hB0 hB1 hB2
  have lA : lm3 (255 * min r 255) (255 * min g 255) (255 * min b 255) = 255 * (30 * r + 59 * g + 11 * b) := by unfold lm3; omega
  have lB : lm3 (255 * min s 255) (255 * min t 255) (255 * min u 255) = 255 * (30 * s + 59 * t + 11 * u) := by unfold lm3; omega
  rcases hm with rfl | rfl | rfl | rfl
  · have c := fun w => blendC_any 10 r g b 255 s t u 255 _ _ _ (by omega) (by omega) r0 r1 g0 g1 b0 b1 (by omega) (by omega) s0 s1 t0 t1 u0 u1 (by omega) (by omega) (fun w => bcol10_any (min r 255) (min g 255) (min b 255) 255 (min s 255) (min t 255) (min u 255) 255 (by omega) (by omega) (by omega) (by omega) (by omega) (by omega) (by omega) (by omega) (by omega) (by omega) (by omega) (by omega) (by omega) (by omega) (by omega) (by omega) (by omega) (by omega) (by omega) (by omega) (by omega) (by omega) w) w
    rw [al_op] at c
    have hn := ns_near (t := st3 (255 * min s 255) (255 * min t 255) (255 * min u 255)) (l := lm3 (255 * min s 255) (255 * min t 255) (255 * min u 255)) (v0 := min r 255) (v1 := min g 255) (v2 := min b 255) (u0 := min s 255) (u1 := min t 255) (u2 := min u 255) hA0 hA1 hA2 ⟨sB.1, sB.2.1⟩ ⟨sB.2.2.1, sB.2.2.2.1⟩ lB
    refine ⟨_, _, _, ?_, ?_, ?_, ?_, c⟩
    · have q := nsQ_bd (t := st3 (255 * min s 255) (255 * min t 255) (255 * min u 255)) (l := lm3 (255 * min s 255) (255 * min t 255) (255 * min u 255)) (v := min r 255) (sa := 255) (u := min s 255) (da := 255) hA0 hA1 hA2 (c := 255 * min r 255) ⟨sA.2.2.2.2.2.2.1, sA.2.2.2.2.2.2.2.2.2.1⟩ ⟨sB.1, sB.2.1⟩ ⟨sB.2.2.1, sB.2.2.2.1⟩ (by rw [unc_op]; omega)
      rw [unc_op] at q
      exact ⟨q.1, Int.le_trans q.2 (by omega)⟩
    · have q := nsQ_bd (t := st3 (255 * min s 255) (255 * min t 255) (255 * min u 255)) (l := lm3 (255 * min s 255) (255 * min t 255) (255 * min u 255)) (v := min g 255) (sa := 255) (u := min t 255) (da := 255) hA0 hA1 hA2 (c := 255 * min g 255) ⟨sA.2.2.2.2.2.2.2.1, sA.2.2.2.2.2.2.2.2.2.2.1⟩ ⟨sB.1, sB.2.1⟩ ⟨sB.2.2.1, sB.2.2.2.1⟩ (by rw [unc_op]; omega)
      rw [unc_op] at q
      exact ⟨q.1, Int.le_trans q.2 (by omega)⟩
    · have q := nsQ_bd (t := st3 (255 * min s 255) (255 * min t 255) (255 * min u 255)) (l := lm3 (255 * min s 255) (255 * min t 255) (255 * min u 255)) (v := min b 255) (sa := 255) (u := min u 255) (da := 255) hA0 hA1 hA2 (c := 255 * min b 255) ⟨sA.2.2.2.2.2.2.2.2.1, sA.2.2.2.2.2.2.2.2.2.2.2⟩ ⟨sB.1, sB.2.1⟩ ⟨sB.2.2.1, sB.2.2.2.1⟩ (by rw [unc_op]; omega)
      rw [unc_op] at q
      exact ⟨q.1, Int.le_trans q.2 (by omega)⟩
    · simpa using hn
  · have c := fun w => blendC_any 11 r g b 255 s t u 255 _ _ _ (by omega) (by omega) r0 r1 g0 g1 b0 b1 (by omega) (by omega) s0 s1 t0 t1 u0 u1 (by omega) (by omega) (fun w => bcol11_any (min r 255) (min g 255) (min b 255) 255 (min s 255) (min t 255) (min u 255) 255 (by omega) (by omega) (by omega) (by omega) (by omega) (by omega) (by omega) (by omega) (by omega) (by omega) (by omega) (by omega) (by omega) (by omega) (by omega) (by omega) (by omega) (by omega) (by omega) (by omega) (by omega) (by omega) w) w
    rw [al_op] at c
    have hn := ns_near (t := st3 (255 * min r 255) (255 * min g 255) (255 * min b 255)) (l := lm3 (255 * min s 255) (255 * min t 255) (255 * min u 255)) (v0 := min r 255) (v1 := min g 255) (v2 := min b 255) (u0 := min s 255) (u1 := min t 255) (u2 := min u 255) hB0 hB1 hB2 ⟨sA.1, sA.2.1⟩ ⟨sB.2.2.1, sB.2.2.2.1⟩ lB
    refine ⟨_, _, _, ?_, ?_, ?_, ?_, c⟩
    · have q := nsQ_bd (t := st3 (255 * min r 255) (255 * min g 255) (255 * min b 255)) (l := lm3 (255 * min s 255) (255 * min t 255) (255 * min u 255)) (v := min r 255) (sa := 255) (u := min s 255) (da := 255) hB0 hB1 hB2 (c := 255 * min s 255) ⟨sB.2.2.2.2.2.2.1, sB.2.2.2.2.2.2.2.2.2.1⟩ ⟨sA.1, sA.2.1⟩ ⟨sB.2.2.1, sB.2.2.2.1⟩ (by rw [unc_op]; omega)
      rw [unc_op] at q
      exact ⟨q.1, Int.le_trans q.2 (by omega)⟩
    · have q := nsQ_bd (t := st3 (255 * min r 255) (255 * min g 255) (255 * min b 255)) (l := lm3 (255 * min s 255) (255 * min t 255) (255 * min u 255)) (v := min g 255) (sa := 255) (u := min t 255) (da := 255) hB0 hB1 hB2 (c := 255 * min t 255) ⟨sB.2.2.2.2.2.2.2.1, sB.2.2.2.2.2.2.2.2.2.2.1⟩ ⟨sA.1, sA.2.1⟩ ⟨sB.2.2.1, sB.2.2.2.1⟩ (by rw [unc_op]; omega)
      rw [unc_op] at q
      exact ⟨q.1, Int.le_trans q.2 (by omega)⟩
    · have q := nsQ_bd (t := st3 (255 * min r 255) (255 * min g 255) (255 * min b 255)) (l := lm3 (255 * min s 255) (255 * min t 255) (255 * min u 255)) (v := min b 255) (sa := 255) (u := min u 255) (da := 255) hB0 hB1 hB2 (c := 255 * min u 255) ⟨sB.2.2.2.2.2.2.2.2.1, sB.2.2.2.2.2.2.2.2.2.2.2⟩ ⟨sA.1, sA.2.1⟩ ⟨sB.2.2.1, sB.2.2.2.1⟩ (by rw [unc_op]; omega)
      rw [unc_op] at q
      exact ⟨q.1, Int.le_trans q.2 (by omega)⟩
    · simpa using hn
  · have c := fun w => blendC_any 12 r g b 255 s t u 255 _ _ _ (by omega) (by omega) r0 r1 g0 g1 b0 b1 (by omega) (by omega) s0 s1 t0 t1 u0 u1 (by omega) (by omega) (fun w => bcol12_any (min r 255) (min g 255) (min b 255) 255 (min s 255) (min t 255) (min u 255) 255 (by omega) (by omega) (by omega) (by omega) (by omega) (by omega) (by omega) (by omega) (by omega) (by omega) (by omega) (by omega) (by omega) (by omega) (by omega) (by omega) (by omega) (by omega) (by omega) (by omega) (by omega) (by omega) w) w
    rw [al_op] at c
    have hn := ns_near (t := st3 (255 * min r 255) (255 * min g 255) (255 * min b 255)) (l := lm3 (255 * min s 255) (255 * min t 255) (255 * min u 255)) (v0 := min r 255) (v1 := min g 255) (v2 := min b 255) (u0 := min s 255) (u1 := min t 255) (u2 := min u 255) hA0 hA1 hA2 ⟨sA.1, sA.2.1⟩ ⟨sB.2.2.1, sB.2.2.2.1⟩ lB
    refine ⟨_, _, _, ?_, ?_, ?_, ?_, c⟩
    · have q := nsQ_bd (t := st3 (255 * min r 255) (255 * min g 255) (255 * min b 255)) (l := lm3 (255 * min s 255) (255 * min t 255) (255 * min u 255)) (v := min r 255) (sa := 255) (u := min s 255) (da := 255) hA0 hA1 hA2 (c := 255 * min r 255) ⟨sA.2.2.2.2.2.2.1, sA.2.2.2.2.2.2.2.2.2.1⟩ ⟨sA.1, sA.2.1⟩ ⟨sB.2.2.1, sB.2.2.2.1⟩ (by rw [unc_op]; omega)
      rw [unc_op] at q
      exact ⟨q.1, Int.le_trans q.2 (by omega)⟩
    · have q := nsQ_bd (t := st3 (255 * min r 255) (255 * min g 255) (255 * min b 255)) (l := lm3 (255 * min s 255) (255 * min t 255) (255 * min u 255)) (v := min g 255) (sa := 255) (u := min t 255) (da := 255) hA0 hA1 hA2 (c := 255 * min g 255) ⟨sA.2.2.2.2.2.2.2.1, sA.2.2.2.2.2.2.2.2.2.2.1⟩ ⟨sA.1, sA.2.1⟩ ⟨sB.2.2.1, sB.2.2.2.1⟩ (by rw [unc_op]; omega)
      rw [unc_op] at q
      exact ⟨q.1, Int.le_trans q.2 (by omega)⟩
    · have q := nsQ_bd (t := st3 (255 * min r 255) (255 * min g 255) (255 * min b 255)) (l := lm3 (255 * min s 255) (255 * min t 255) (255 * min u 255)) (v := min b 255) (sa := 255) (u := min u 255) (da := 255) hA0 hA1 hA2 (c := 255 * min b 255) ⟨sA.2.2.2.2.2.2.2.2.1, sA.2.2.2.2.2.2.2.2.2.2.2⟩ ⟨sA.1, sA.2.1⟩ ⟨sB.2.2.1, sB.2.2.2.1⟩ (by rw [unc_op]; omega)
      rw [unc_op] at q
      exact ⟨q.1, Int.le_trans q.2 (by omega)⟩
    · simpa using hn
  · have c := fun w => blendC_any 13 r g b 255 s t u 255 _ _ _ (by omega) (by omega) r0 r1 g0 g1 b0 b1 (by omega) (by omega) s0 s1 t0 t1 u0 u1 (by omega) (by omega) (fun w => bcol13_any (min r 255) (min g 255) (min b 255) 255 (min s 255) (min t 255) (min u 255) 255 (by omega) (by omega) (by omega) (by omega) (by omega) (by omega) (by omega) (by omega) (by omega) (by omega) (by omega) (by omega) (by omega) (by omega) (by omega) (by omega) (by omega) (by omega) (by omega) (by omega) (by omega) (by omega) w) w
    rw [al_op] at c
    have hn := ns_near (t := st3 (255 * min s 255) (255 * min t 255) (255 * min u 255)) (l := lm3 (255 * min r 255) (255 * min g 255) (255 * min b 255)) (v0 := min r 255) (v1 := min g 255) (v2 := min b 255) (u0 := min s 255) (u1 := min t 255) (u2 := min u 255) hB0 hB1 hB2 ⟨sB.1, sB.2.1⟩ ⟨sA.2.2.1, sA.2.2.2.1⟩ lA
    refine ⟨_, _, _, ?_, ?_, ?_, ?_, c⟩
    · have q := nsQ_bd (t := st3 (255 * min s 255) (255 * min t 255) (255 * min u 255)) (l := lm3 (255 * min r 255) (255 * min g 255) (255 * min b 255)) (v := min r 255) (sa := 255) (u := min s 255) (da := 255) hB0 hB1 hB2 (c := 255 * min s 255) ⟨sB.2.2.2.2.2.2.1, sB.2.2.2.2.2.2.2.2.2.1⟩ ⟨sB.1, sB.2.1⟩ ⟨sA.2.2.1, sA.2.2.2.1⟩ (by rw [unc_op]; omega)
      rw [unc_op] at q
      exact ⟨q.1, Int.le_trans q.2 (by omega)⟩
    · have q := nsQ_bd (t := st3 (255 * min s 255) (255 * min t 255) (255 * min u 255)) (l := lm3 (255 * min r 255) (255 * min g 255) (255 * min b 255)) (v := min g 255) (sa := 255) (u := min t 255) (da := 255) hB0 hB1 hB2 (c := 255 * min t 255) ⟨sB.2.2.2.2.2.2.2.1, sB.2.2.2.2.2.2.2.2.2.2.1⟩ ⟨sB.1, sB.2.1⟩ ⟨sA.2.2.1, sA.2.2.2.1⟩ (by rw [unc_op]; omega)
      rw [unc_op] at q
      exact ⟨q.1, Int.le_trans q.2 (by omega)⟩
    · have q := nsQ_bd (t := st3 (255 * min s 255) (255 * min t 255) (255 * min u 255)) (l := lm3 (255 * min r 255) (255 * min g 255) (255 * min b 255)) (v := min b 255) (sa := 255) (u := min u 255) (da := 255) hB0 hB1 hB2 (c := 255 * min u 255) ⟨sB.2.2.2.2.2.2.2.2.1, sB.2.2.2.2.2.2.2.2.2.2.2⟩ ⟨sB.1, sB.2.1⟩ ⟨sA.2.2.1, sA.2.2.2.1⟩ (by rw [unc_op]; omega)
      rw [unc_op] at q
      exact ⟨q.1, Int.le_trans q.2 (by omega)⟩
    · simpa using hn
end Go.Proofs.YtdhajiaepaamgaaDoor
