import Derived.Test.YtdhajiaepaamgaaDoorN6
import Derived.Test.YtdhajiaepaamgaaDoorBX
import Derived.WalkKit
import Derived.WalkSpells
import Derived.WalkLawsBesides
import Derived.Lib.Hide
import Derived.Below
import Derived.Deep.QuietTactic
import Derived.BigQuiet
import Derived.Deep.RegionHeld3
import Derived.Deep.DrawnRows
import Derived.Deep.DeepFit
import Derived.IntWalk
namespace Go.Proofs.YtdhajiaepaamgaaDoor
open Go.RowKit
set_option linter.unusedVariables false
set_option linter.unusedSimpArgs false
attribute [local go_sem ↓] Go.wp_at_zero Go.wp_at_succ
attribute [local go_sem] rhoF_tmp rhoF_const rhoF_global rhoF_func

theorem divN_255t (x : Int) (h0 : 0 ≤ x) (h1 : x ≤ 255) : divN (255 * x) = x := by
  unfold divN clampV; rw [if_neg (by omega), if_neg (by omega)]; omega
theorem unc_t1 (v a : Int) : unc v a 0 0 = 255 * v := by unfold unc; omega
theorem unc_t2 (u d : Int) : unc 0 0 u d = 255 * u := by unfold unc; omega
theorem termF_t1 (m v a : Int) (h0 : 0 ≤ v) (h1 : v ≤ a) (h2 : a ≤ 255) : termF m v a 0 0 = 0 := by
  rw [termF_in (by omega)]
  have := trm_bd m (s := v) (sa := a) (d := 0) (da := 0) (by omega)
  rw [Int.mul_zero] at this; omega
theorem termF_t2 (m u d : Int) (h0 : 0 ≤ u) (h1 : u ≤ d) (h2 : d ≤ 255) : termF m 0 0 u d = 0 := by
  rw [termF_in (by omega)]
  have := trm_bd m (s := 0) (sa := 0) (d := u) (da := d) (by omega)
  rw [Int.zero_mul] at this; omega
theorem bc_t1 (m v a : Int) (h0 : 0 ≤ v) (h1 : v ≤ a) (h2 : a ≤ 255) : bc m v a (min 0 0) 0 = v := by
  rw [show min (0 : Int) 0 = 0 by decide]
  unfold bc; rw [unc_t1, termF_t1 m v a h0 h1 h2, Int.add_zero, divN_255t v h0 (by omega)]
theorem bc_t2 (m u d : Int) (h0 : 0 ≤ u) (h1 : u ≤ d) (h2 : d ≤ 255) : bc m (min 0 0) 0 u d = u := by
  rw [show min (0 : Int) 0 = 0 by decide]
  unfold bc; rw [unc_t2, termF_t2 m u d h0 h1 h2, Int.add_zero, divN_255t u h0 (by omega)]
theorem al_t1 (a : Int) (h0 : 0 ≤ a) (h1 : a ≤ 255) : divN (unc a a 0 0 + a * 0) = a := by rw [unc_t1, Int.mul_zero, Int.add_zero, divN_255t a h0 h1]
theorem al_t2 (d : Int) (h0 : 0 ≤ d) (h1 : d ≤ 255) : divN (unc 0 0 d d + 0 * d) = d := by rw [unc_t2, Int.zero_mul, Int.add_zero, divN_255t d h0 h1]
theorem mixQ_0 (v : Int) : mixQ (255 * v) 0 100 = v := by unfold mixQ; omega
theorem nsQ_0 (v sa u da : Int) : nsQ 0 0 0 (st3 0 0 0) (lm3 0 0 0) 0 v sa u da 0 = mixQ (unc v sa u da) 0 100 := by
  unfold nsQ
  rw [show frN 0 (lo3 0 0 0) (hi3 0 0 0) (hi3 0 0 0 - lo3 0 0 0) (lm3 0 0 0 - 100 * lo3 0 0 0) (st3 0 0 0) (lm3 0 0 0) 0 = 0 by decide, show frD (hi3 0 0 0 - lo3 0 0 0) (lm3 0 0 0 - 100 * lo3 0 0 0) (st3 0 0 0) (lm3 0 0 0) 0 = 100 by decide]

theorem tr1_any (m r g b a : Int) (h1 : 1 ≤ m) (h2 : m ≤ 13) (r0 : 0 ≤ r) (r1 : r ≤ 255) (g0 : 0 ≤ g) (g1 : g ≤ 255) (b0 : 0 ≤ b) (b1 : b ≤ 255) (a0 : 0 ≤ a) (a1 : a ≤ 255) (w : World) :
    Calls Tryd.prog 23 #[.int .i64 m, .agg #[.int .u8 r, .int .u8 g, .int .u8 b, .int .u8 a], .agg #[.int .u8 0, .int .u8 0, .int .u8 0, .int .u8 0]] w fun e w' => e = .returned (.agg #[.int .u8 (min r a), .int .u8 (min g a), .int .u8 (min b a), .int .u8 a]) ∧ Below w.heap.size w w' := by
  by_cases hm : m ≤ 9
  · have c := blend_any m r g b a 0 0 0 0 h1 hm r0 r1 g0 g1 b0 b1 a0 a1 (by omega) (by omega) (by omega) (by omega) (by omega) (by omega) (by omega) (by omega) w
    rw [bc_t1 m (min r a) a (by omega) (by omega) a1, bc_t1 m (min g a) a (by omega) (by omega) a1, bc_t1 m (min b a) a (by omega) (by omega) a1, al_t1 a a0 a1] at c
    exact c
  · have hm2 : m = 10 ∨ m = 11 ∨ m = 12 ∨ m = 13 := by omega
    have cc : ∀ q0 q1 q2, (∀ w : World, Calls Tryd.prog 35 #[.int .i64 m, .agg #[.int .u8 (min r a), .int .u8 (min g a), .int .u8 (min b a), .int .u8 a], .agg #[.int .u8 (min 0 0), .int .u8 (min 0 0), .int .u8 (min 0 0), .int .u8 0]] w fun e w' => e = .returned (.agg #[.int .u8 q0, .int .u8 q1, .int .u8 q2]) ∧ Below w.heap.size w w') → q0 = min r a → q1 = min g a → q2 = min b a → Calls Tryd.prog 23 #[.int .i64 m, .agg #[.int .u8 r, .int .u8 g, .int .u8 b, .int .u8 a], .agg #[.int .u8 0, .int .u8 0, .int .u8 0, .int .u8 0]] w fun e w' => e = .returned (.agg #[.int .u8 (min r a), .int .u8 (min g a), .int .u8 (min b a), .int .u8 a]) ∧ Below w.heap.size w w' := by
      intro q0 q1 q2 cq e0 e1 e2
      have c := blendC_any m r g b a 0 0 0 0 q0 q1 q2 (by omega) (by omega) r0 r1 g0 g1 b0 b1 a0 a1 (by omega) (by omega) (by omega) (by omega) (by omega) (by omega) (by omega) (by omega) cq w
      rw [al_t1 a a0 a1, e0, e1, e2] at c
      exact c
    rcases hm2 with rfl | rfl | rfl | rfl
    · refine cc _ _ _ (fun w => bcol10_any (min r a) (min g a) (min b a) (a) (min 0 0) (min 0 0) (min 0 0) (0) (by omega) (by omega) (by omega) (by omega) (by omega) (by omega) (by omega) (by omega) (by omega) (by omega) (by omega) (by omega) (by omega) (by omega) (by omega) (by omega) (by omega) (by omega) (by omega) (by omega) (by omega) (by omega) w) ?_ ?_ ?_
      · rw [show min (0 : Int) 0 = 0 by decide]; simp only [Int.zero_mul, Int.mul_zero]; rw [nsQ_0, unc_t1 (min r a) a, mixQ_0]
      · rw [show min (0 : Int) 0 = 0 by decide]; simp only [Int.zero_mul, Int.mul_zero]; rw [nsQ_0, unc_t1 (min g a) a, mixQ_0]
      · rw [show min (0 : Int) 0 = 0 by decide]; simp only [Int.zero_mul, Int.mul_zero]; rw [nsQ_0, unc_t1 (min b a) a, mixQ_0]
    · refine cc _ _ _ (fun w => bcol11_any (min r a) (min g a) (min b a) (a) (min 0 0) (min 0 0) (min 0 0) (0) (by omega) (by omega) (by omega) (by omega) (by omega) (by omega) (by omega) (by omega) (by omega) (by omega) (by omega) (by omega) (by omega) (by omega) (by omega) (by omega) (by omega) (by omega) (by omega) (by omega) (by omega) (by omega) w) ?_ ?_ ?_
      · rw [show min (0 : Int) 0 = 0 by decide]; simp only [Int.zero_mul, Int.mul_zero]; rw [nsQ_0, unc_t1 (min r a) a, mixQ_0]
      · rw [show min (0 : Int) 0 = 0 by decide]; simp only [Int.zero_mul, Int.mul_zero]; rw [nsQ_0, unc_t1 (min g a) a, mixQ_0]
      · rw [show min (0 : Int) 0 = 0 by decide]; simp only [Int.zero_mul, Int.mul_zero]; rw [nsQ_0, unc_t1 (min b a) a, mixQ_0]
    · refine cc _ _ _ (fun w => bcol12_any (min r a) (min g a) (min b a) (a) (min 0 0) (min 0 0) (min 0 0) (0) (by omega) (by omega) (by omega) (by omega) (by omega) (by omega) (by omega) (by omega) (by omega) (by omega) (by omega) (by omega) (by omega) (by omega) (by omega) (by omega) (by omega) (by omega) (by omega) (by omega) (by omega) (by omega) w) ?_ ?_ ?_
      · rw [show min (0 : Int) 0 = 0 by decide]; simp only [Int.zero_mul, Int.mul_zero]; rw [nsQ_0, unc_t1 (min r a) a, mixQ_0]
      · rw [show min (0 : Int) 0 = 0 by decide]; simp only [Int.zero_mul, Int.mul_zero]; rw [nsQ_0, unc_t1 (min g a) a, mixQ_0]
      · rw [show min (0 : Int) 0 = 0 by decide]; simp only [Int.zero_mul, Int.mul_zero]; rw [nsQ_0, unc_t1 (min b a) a, mixQ_0]
    · refine cc _ _ _ (fun w => bcol13_any (min r a) (min g a) (min b a) (a) (min 0 0) (min 0 0) (min 0 0) (0) (by omega) (by omega) (by omega) (by omega) (by omega) (by omega) (by omega) (by omega) (by omega) (by omega) (by omega) (by omega) (by omega) (by omega) (by omega) (by omega) (by omega) (by omega) (by omega) (by omega) (by omega) (by omega) w) ?_ ?_ ?_
      · rw [show min (0 : Int) 0 = 0 by decide]; simp only [Int.zero_mul, Int.mul_zero]; rw [nsQ_0, unc_t1 (min r a) a, mixQ_0]
      · rw [show min (0 : Int) 0 = 0 by decide]; simp only [Int.zero_mul, Int.mul_zero]; rw [nsQ_0, unc_t1 (min g a) a, mixQ_0]
      · rw [show min (0 : Int) 0 = 0 by decide]; simp only [Int.zero_mul, Int.mul_zero]; rw [nsQ_0, unc_t1 (min b a) a, mixQ_0]

theorem tr2_any (m r g b a : Int) (h1 : 1 ≤ m) (h2 : m ≤ 13) (r0 : 0 ≤ r) (r1 : r ≤ 255) (g0 : 0 ≤ g) (g1 : g ≤ 255) (b0 : 0 ≤ b) (b1 : b ≤ 255) (a0 : 0 ≤ a) (a1 : a ≤ 255) (w : World) :
    Calls Tryd.prog 23 #[.int .i64 m, .agg #[.int .u8 0, .int .u8 0, .int .u8 0, .int .u8 0], .agg #[.int .u8 r, .int .u8 g, .int .u8 b, .int .u8 a]] w fun e w' => e = .returned (.agg #[.int .u8 (min r a), .int .u8 (min g a), .int .u8 (min b a), .int .u8 a]) ∧ Below w.heap.size w w' := by
  by_cases hm : m ≤ 9
  · have c := blend_any m 0 0 0 0 r g b a h1 hm (by omega) (by omega) (by omega) (by omega) (by omega) (by omega) (by omega) (by omega) r0 r1 g0 g1 b0 b1 a0 a1 w
    rw [bc_t2 m (min r a) a (by omega) (by omega) a1, bc_t2 m (min g a) a (by omega) (by omega) a1, bc_t2 m (min b a) a (by omega) (by omega) a1, al_t2 a a0 a1] at c
    exact c
  · have hm2 : m = 10 ∨ m = 11 ∨ m = 12 ∨ m = 13 := by omega
    have cc : ∀ q0 q1 q2, (∀ w : World, Calls Tryd.prog 35 #[.int .i64 m, .agg #[.int .u8 (min 0 0), .int .u8 (min 0 0), .int .u8 (min 0 0), .int .u8 0], .agg #[.int .u8 (min r a), .int .u8 (min g a), .int .u8 (min b a), .int .u8 a]] w fun e w' => e = .returned (.agg #[.int .u8 q0, .int .u8 q1, .int .u8 q2]) ∧ Below w.heap.size w w') → q0 = min r a → q1 = min g a → q2 = min b a → Calls Tryd.prog 23 #[.int .i64 m, .agg #[.int .u8 0, .int .u8 0, .int .u8 0, .int .u8 0], .agg #[.int .u8 r, .int .u8 g, .int .u8 b, .int .u8 a]] w fun e w' => e = .returned (.agg #[.int .u8 (min r a), .int .u8 (min g a), .int .u8 (min b a), .int .u8 a]) ∧ Below w.heap.size w w' := by
      intro q0 q1 q2 cq e0 e1 e2
      have c := blendC_any m 0 0 0 0 r g b a q0 q1 q2 (by omega) (by omega) (by omega) (by omega) (by omega) (by omega) (by omega) (by omega) (by omega) (by omega) r0 r1 g0 g1 b0 b1 a0 a1 cq w
      rw [al_t2 a a0 a1, e0, e1, e2] at c
      exact c
    rcases hm2 with rfl | rfl | rfl | rfl
    · refine cc _ _ _ (fun w => bcol10_any (min 0 0) (min 0 0) (min 0 0) (0) (min r a) (min g a) (min b a) (a) (by omega) (by omega) (by omega) (by omega) (by omega) (by omega) (by omega) (by omega) (by omega) (by omega) (by omega) (by omega) (by omega) (by omega) (by omega) (by omega) (by omega) (by omega) (by omega) (by omega) (by omega) (by omega) w) ?_ ?_ ?_
      · rw [show min (0 : Int) 0 = 0 by decide]; simp only [Int.zero_mul, Int.mul_zero]; rw [nsQ_0, unc_t2 (min r a) a, mixQ_0]
      · rw [show min (0 : Int) 0 = 0 by decide]; simp only [Int.zero_mul, Int.mul_zero]; rw [nsQ_0, unc_t2 (min g a) a, mixQ_0]
      · rw [show min (0 : Int) 0 = 0 by decide]; simp only [Int.zero_mul, Int.mul_zero]; rw [nsQ_0, unc_t2 (min b a) a, mixQ_0]
    · refine cc _ _ _ (fun w => bcol11_any (min 0 0) (min 0 0) (min 0 0) (0) (min r a) (min g a) (min b a) (a) (by omega) (by omega) (by omega) (by omega) (by omega) (by omega) (by omega) (by omega) (by omega) (by omega) (by omega) (by omega) (by omega) (by omega) (by omega) (by omega) (by omega) (by omega) (by omega) (by omega) (by omega) (by omega) w) ?_ ?_ ?_
      · rw [show min (0 : Int) 0 = 0 by decide]; simp only [Int.zero_mul, Int.mul_zero]; rw [nsQ_0, unc_t2 (min r a) a, mixQ_0]
      · rw [show min (0 : Int) 0 = 0 by decide]; simp only [Int.zero_mul, Int.mul_zero]; rw [nsQ_0, unc_t2 (min g a) a, mixQ_0]
      · rw [show min (0 : Int) 0 = 0 by decide]; simp only [Int.zero_mul, Int.mul_zero]; rw [nsQ_0, unc_t2 (min b a) a, mixQ_0]
    · refine cc _ _ _ (fun w => bcol12_any (min 0 0) (min 0 0) (min 0 0) (0) (min r a) (min g a) (min b a) (a) (by omega) (by omega) (by omega) (by omega) (by omega) (by omega) (by omega) (by omega) (by omega) (by omega) (by omega) (by omega) (by omega) (by omega) (by omega) (by omega) (by omega) (by omega) (by omega) (by omega) (by omega) (by omega) w) ?_ ?_ ?_
      · rw [show min (0 : Int) 0 = 0 by decide]; simp only [Int.zero_mul, Int.mul_zero]; rw [nsQ_0, unc_t2 (min r a) a, mixQ_0]
      · rw [show min (0 : Int) 0 = 0 by decide]; simp only [Int.zero_mul, Int.mul_zero]; rw [nsQ_0, unc_t2 (min g a) a, mixQ_0]
      · rw [show min (0 : Int) 0 = 0 by decide]; simp only [Int.zero_mul, Int.mul_zero]; rw [nsQ_0, unc_t2 (min b a) a, mixQ_0]
    · refine cc _ _ _ (fun w => bcol13_any (min 0 0) (min 0 0) (min 0 0) (0) (min r a) (min g a) (min b a) (a) (by omega) (by omega) (by omega) (by omega) (by omega) (by omega) (by omega) (by omega) (by omega) (by omega) (by omega) (by omega) (by omega) (by omega) (by omega) (by omega) (by omega) (by omega) (by omega) (by omega) (by omega) (by omega) w) ?_ ?_ ?_
      · rw [show min (0 : Int) 0 = 0 by decide]; simp only [Int.zero_mul, Int.mul_zero]; rw [nsQ_0, unc_t2 (min r a) a, mixQ_0]
      · rw [show min (0 : Int) 0 = 0 by decide]; simp only [Int.zero_mul, Int.mul_zero]; rw [nsQ_0, unc_t2 (min g a) a, mixQ_0]
      · rw [show min (0 : Int) 0 = 0 by decide]; simp only [Int.zero_mul, Int.mul_zero]; rw [nsQ_0, unc_t2 (min b a) a, mixQ_0]

set_option maxHeartbeats 4000000 in
theorem btrans_w (m r g b a : Int) (r0 : 0 ≤ r) (r1 : r ≤ 255) (g0 : 0 ≤ g) (g1 : g ≤ 255) (b0 : 0 ≤ b) (b1 : b ≤ 255) (a0 : 0 ≤ a) (a1 : a ≤ 255) (w : World) (hN : Nm w) :
    Calls Tryd.prog 7 #[.int .i64 m, .agg #[.int .u8 r, .int .u8 g, .int .u8 b, .int .u8 a]] w fun e w' => e = .returned (.bool true) ∧ Below w.heap.size w w' := by
  have cv := fun w => validM_any m w
  by_cases hm : 1 ≤ m ∧ m ≤ 13
  · rw [show (decide (1 ≤ m) && decide (m ≤ 13)) = true by simp; omega] at cv
    have c1 := fun w => tr1_any m r g b a hm.1 hm.2 r0 r1 g0 g1 b0 b1 a0 a1 w
    have c2 := fun w => tr2_any m r g b a hm.1 hm.2 r0 r1 g0 g1 b0 b1 a0 a1 w
    obtain ⟨cr, hr⟩ : ∃ x, min r a = x := ⟨_, rfl⟩
    obtain ⟨cg, hg⟩ : ∃ x, min g a = x := ⟨_, rfl⟩
    obtain ⟨cb, hb⟩ : ∃ x, min b a = x := ⟨_, rfl⟩
    rw [hr, hg, hb] at c1 c2
    clear hm
    go_enter Tryd.func7, Tryd.ntmps7
    go_wp2_with (first | (go_at_call 17; (with_reducible refine (cv _).mono ?_); rintro e w9 ⟨rfl, rfl⟩))
    refine wp_region_env (fun w' => w'.cell? ⟨w.heap.size, 0, none⟩ = some (.int .u8 r) ∧ w'.frozen? ⟨w.heap.size, 0, none⟩ = false ∧ w'.cell? ⟨w.heap.size, 1, none⟩ = some (.int .u8 g) ∧ w'.frozen? ⟨w.heap.size, 1, none⟩ = false ∧ w'.cell? ⟨w.heap.size, 2, none⟩ = some (.int .u8 b) ∧ w'.frozen? ⟨w.heap.size, 2, none⟩ = false ∧ w'.cell? ⟨w.heap.size, 3, none⟩ = some (.int .u8 a) ∧ w'.frozen? ⟨w.heap.size, 3, none⟩ = false ∧ Nm w') (fun W => W.cell? ⟨w.heap.size, 0, none⟩ = some (.int .u8 r) ∧ W.frozen? ⟨w.heap.size, 0, none⟩ = false ∧ W.cell? ⟨w.heap.size, 1, none⟩ = some (.int .u8 g) ∧ W.frozen? ⟨w.heap.size, 1, none⟩ = false ∧ W.cell? ⟨w.heap.size, 2, none⟩ = some (.int .u8 b) ∧ W.frozen? ⟨w.heap.size, 2, none⟩ = false ∧ W.cell? ⟨w.heap.size, 3, none⟩ = some (.int .u8 a) ∧ W.frozen? ⟨w.heap.size, 3, none⟩ = false ∧ Nm W ∧ Below w.heap.size w W ∧ w.heap.size + 1 ≤ W.heap.size) 20 36 [.val (.int .i64 m), .val (.agg #[.int .u8 r, .int .u8 g, .int .u8 b, .int .u8 a]), .val (.agg #[.int .u8 0, .int .u8 0, .int .u8 0, .int .u8 0]), .call 23 #[.int .i64 m, .agg #[.int .u8 r, .int .u8 g, .int .u8 b, .int .u8 a], .agg #[.int .u8 0, .int .u8 0, .int .u8 0, .int .u8 0]] (.agg #[.int .u8 cr, .int .u8 cg, .int .u8 cb, .int .u8 a]), .val (.agg #[.int .u8 r, .int .u8 g, .int .u8 b, .int .u8 a]), .call 25 #[.agg #[.int .u8 r, .int .u8 g, .int .u8 b, .int .u8 a]] (.agg #[.int .u8 cr, .int .u8 cg, .int .u8 cb, .int .u8 a]), .val (.bool true), .val (.bool true), .val (.int .i64 m), .val (.agg #[.int .u8 0, .int .u8 0, .int .u8 0, .int .u8 0]), .val (.agg #[.int .u8 r, .int .u8 g, .int .u8 b, .int .u8 a]), .call 23 #[.int .i64 m, .agg #[.int .u8 0, .int .u8 0, .int .u8 0, .int .u8 0], .agg #[.int .u8 r, .int .u8 g, .int .u8 b, .int .u8 a]] (.agg #[.int .u8 cr, .int .u8 cg, .int .u8 cb, .int .u8 a]), .val (.agg #[.int .u8 r, .int .u8 g, .int .u8 b, .int .u8 a]), .call 25 #[.agg #[.int .u8 r, .int .u8 g, .int .u8 b, .int .u8 a]] (.agg #[.int .u8 cr, .int .u8 cg, .int .u8 cb, .int .u8 a]), .val (.bool true), .val (.bool true), .val (.bool true), .call 20 #[] (.bool true), .val (.bool true), .val (.bool true)] (by kernel_rfl) (by kernel_rfl) rfl (by kernel_rfl) (by rintro w1 w2 ⟨h0, h1, h2, h3, h4, h5, h6, h7, h8⟩ hb; exact ⟨bcs hb h0, bfs hb h0 h1, bcs hb h2, bfs hb h2 h3, bcs hb h4, bfs hb h4 h5, bcs hb h6, bfs hb h6 h7, Nm.below h8 hb⟩) ⟨by first | with_reducible assumption | go_simp, by first | with_reducible assumption | go_simp, by first | with_reducible assumption | go_simp, by first | with_reducible assumption | go_simp, by first | with_reducible assumption | go_simp, by first | with_reducible assumption | go_simp, by first | with_reducible assumption | go_simp, by first | with_reducible assumption | go_simp, Nm.below hN (by repeat (first | with_reducible exact Below.refl _ _ | fail | with_reducible apply below_drewN | with_reducible apply Below.drew | (with_reducible refine Below.alloc ?_ (by first | (simp; done) | (simp; omega) | omega) _) | (with_reducible refine Below.setCell ?_ (by first | (simp; done) | (simp; omega) | omega) _))), by repeat (first | with_reducible exact Below.refl _ _ | fail | with_reducible apply below_drewN | with_reducible apply Below.drew | (with_reducible refine Below.alloc ?_ (by first | (simp; done) | (simp; omega) | omega) _) | (with_reducible refine Below.setCell ?_ (by first | (simp; done) | (simp; omega) | omega) _)), by first | with_reducible assumption | (simp; done) | (simp; omega)⟩ ?_ ?_
    · rintro W ⟨k1_b3_0, g1_b3_0, k1_b3_1, g1_b3_1, k1_b3_2, g1_b3_2, k1_b3_3, g1_b3_3, e1_0, B1, z1⟩; exact ⟨k1_b3_0, g1_b3_0, k1_b3_1, g1_b3_1, k1_b3_2, g1_b3_2, k1_b3_3, g1_b3_3, e1_0⟩
    rintro w1 ⟨k1_b3_0, g1_b3_0, k1_b3_1, g1_b3_1, k1_b3_2, g1_b3_2, k1_b3_3, g1_b3_3, e1_0, B1, z1⟩ gg
    simp only [List.take_succ_cons, List.take_zero, List.drop_succ_cons, List.drop_zero, List.cons_append, List.nil_append, List.append_nil]
    refine obe_val (by rfl) ?_ ?_
    · clear k1_b3_0 g1_b3_0 k1_b3_1 g1_b3_1 k1_b3_2 g1_b3_2 k1_b3_3 g1_b3_3 e1_0 B1 z1; intro f hf; have u0 : f 0 = (.int .i64 m) := (by rw [← hf]; rfl); clear hf; rintro w' ⟨h0, h1, h2, h3, h4, h5, h6, h7, h8⟩; go_simp; try exact IntWalk.i64_in _ (by omega)
    refine obe_val (by rfl) ?_ ?_
    · clear k1_b3_0 g1_b3_0 k1_b3_1 g1_b3_1 k1_b3_2 g1_b3_2 k1_b3_3 g1_b3_3 e1_0 B1 z1; intro f hf; have u3 : f 3 = (.pointer (some ⟨w.heap.size, 0, none⟩)) := (by rw [← hf]; rfl); clear hf; rintro w' ⟨h0, h1, h2, h3, h4, h5, h6, h7, h8⟩; go_simp; try exact IntWalk.i64_in _ (by omega)
    refine obe_val (by rfl) ?_ ?_
    · clear k1_b3_0 g1_b3_0 k1_b3_1 g1_b3_1 k1_b3_2 g1_b3_2 k1_b3_3 g1_b3_3 e1_0 B1 z1; intro f hf; clear hf; rintro w' ⟨h0, h1, h2, h3, h4, h5, h6, h7, h8⟩; go_simp; try exact IntWalk.i64_in _ (by omega)
    refine obe_call (by rfl) ?_ ?_ ?_
    · clear k1_b3_0 g1_b3_0 k1_b3_1 g1_b3_1 k1_b3_2 g1_b3_2 k1_b3_3 g1_b3_3 e1_0 B1 z1; intro f hf; have u17 : f 17 = (.int .i64 m) := (by rw [← hf]; rfl); have u18 : f 18 = (.agg #[.int .u8 r, .int .u8 g, .int .u8 b, .int .u8 a]) := (by rw [← hf]; rfl); have u19 : f 19 = (.agg #[.int .u8 0, .int .u8 0, .int .u8 0, .int .u8 0]) := (by rw [← hf]; rfl); clear hf; intro w' _; simp only [execOp, resolve, invoke, rhoF_tmp, rhoF_func, rhoF_const, u17, u18, u19, List.map_toArray, List.map_cons, List.map_nil]; go_simp
    · clear k1_b3_0 g1_b3_0 k1_b3_1 g1_b3_1 k1_b3_2 g1_b3_2 k1_b3_3 g1_b3_3 e1_0 B1 z1; rintro w' ⟨h0, h1, h2, h3, h4, h5, h6, h7, h8⟩; exact c1 _
    refine obe_val (by rfl) ?_ ?_
    · clear k1_b3_0 g1_b3_0 k1_b3_1 g1_b3_1 k1_b3_2 g1_b3_2 k1_b3_3 g1_b3_3 e1_0 B1 z1; intro f hf; have u3 : f 3 = (.pointer (some ⟨w.heap.size, 0, none⟩)) := (by rw [← hf]; rfl); clear hf; rintro w' ⟨h0, h1, h2, h3, h4, h5, h6, h7, h8⟩; go_simp; try exact IntWalk.i64_in _ (by omega)
    refine obe_call (by rfl) ?_ ?_ ?_
    · clear k1_b3_0 g1_b3_0 k1_b3_1 g1_b3_1 k1_b3_2 g1_b3_2 k1_b3_3 g1_b3_3 e1_0 B1 z1; intro f hf; have u21 : f 21 = (.agg #[.int .u8 r, .int .u8 g, .int .u8 b, .int .u8 a]) := (by rw [← hf]; rfl); clear hf; intro w' _; simp only [execOp, resolve, invoke, rhoF_tmp, rhoF_func, rhoF_const, u21, List.map_toArray, List.map_cons, List.map_nil]; go_simp
    · clear k1_b3_0 g1_b3_0 k1_b3_1 g1_b3_1 k1_b3_2 g1_b3_2 k1_b3_3 g1_b3_3 e1_0 B1 z1; rintro w' ⟨h0, h1, h2, h3, h4, h5, h6, h7, h8⟩; exact rpclamp_any r g b a cr cg cb hr hg hb _
    refine obe_val (by rfl) ?_ ?_
    · clear k1_b3_0 g1_b3_0 k1_b3_1 g1_b3_1 k1_b3_2 g1_b3_2 k1_b3_3 g1_b3_3 e1_0 B1 z1; intro f hf; have u20 : f 20 = (.agg #[.int .u8 cr, .int .u8 cg, .int .u8 cb, .int .u8 a]) := (by rw [← hf]; rfl); have u22 : f 22 = (.agg #[.int .u8 cr, .int .u8 cg, .int .u8 cb, .int .u8 a]) := (by rw [← hf]; rfl); clear hf; rintro w' ⟨h0, h1, h2, h3, h4, h5, h6, h7, h8⟩; go_simp; try exact IntWalk.i64_in _ (by omega)
    refine obe_val (by rfl) ?_ ?_
    · clear k1_b3_0 g1_b3_0 k1_b3_1 g1_b3_1 k1_b3_2 g1_b3_2 k1_b3_3 g1_b3_3 e1_0 B1 z1; intro f hf; have u23 : f 23 = (.bool true) := (by rw [← hf]; rfl); clear hf; rintro w' ⟨h0, h1, h2, h3, h4, h5, h6, h7, h8⟩; go_simp; try exact IntWalk.i64_in _ (by omega)
    refine obe_val (by rfl) ?_ ?_
    · clear k1_b3_0 g1_b3_0 k1_b3_1 g1_b3_1 k1_b3_2 g1_b3_2 k1_b3_3 g1_b3_3 e1_0 B1 z1; intro f hf; have u0 : f 0 = (.int .i64 m) := (by rw [← hf]; rfl); clear hf; rintro w' ⟨h0, h1, h2, h3, h4, h5, h6, h7, h8⟩; go_simp; try exact IntWalk.i64_in _ (by omega)
    refine obe_val (by rfl) ?_ ?_
    · clear k1_b3_0 g1_b3_0 k1_b3_1 g1_b3_1 k1_b3_2 g1_b3_2 k1_b3_3 g1_b3_3 e1_0 B1 z1; intro f hf; clear hf; rintro w' ⟨h0, h1, h2, h3, h4, h5, h6, h7, h8⟩; go_simp; try exact IntWalk.i64_in _ (by omega)
    refine obe_val (by rfl) ?_ ?_
    · clear k1_b3_0 g1_b3_0 k1_b3_1 g1_b3_1 k1_b3_2 g1_b3_2 k1_b3_3 g1_b3_3 e1_0 B1 z1; intro f hf; have u3 : f 3 = (.pointer (some ⟨w.heap.size, 0, none⟩)) := (by rw [← hf]; rfl); clear hf; rintro w' ⟨h0, h1, h2, h3, h4, h5, h6, h7, h8⟩; go_simp; try exact IntWalk.i64_in _ (by omega)
    refine obe_call (by rfl) ?_ ?_ ?_
    · clear k1_b3_0 g1_b3_0 k1_b3_1 g1_b3_1 k1_b3_2 g1_b3_2 k1_b3_3 g1_b3_3 e1_0 B1 z1; intro f hf; have u25 : f 25 = (.int .i64 m) := (by rw [← hf]; rfl); have u26 : f 26 = (.agg #[.int .u8 0, .int .u8 0, .int .u8 0, .int .u8 0]) := (by rw [← hf]; rfl); have u27 : f 27 = (.agg #[.int .u8 r, .int .u8 g, .int .u8 b, .int .u8 a]) := (by rw [← hf]; rfl); clear hf; intro w' _; simp only [execOp, resolve, invoke, rhoF_tmp, rhoF_func, rhoF_const, u25, u26, u27, List.map_toArray, List.map_cons, List.map_nil]; go_simp
    · clear k1_b3_0 g1_b3_0 k1_b3_1 g1_b3_1 k1_b3_2 g1_b3_2 k1_b3_3 g1_b3_3 e1_0 B1 z1; rintro w' ⟨h0, h1, h2, h3, h4, h5, h6, h7, h8⟩; exact c2 _
    refine obe_val (by rfl) ?_ ?_
    · clear k1_b3_0 g1_b3_0 k1_b3_1 g1_b3_1 k1_b3_2 g1_b3_2 k1_b3_3 g1_b3_3 e1_0 B1 z1; intro f hf; have u3 : f 3 = (.pointer (some ⟨w.heap.size, 0, none⟩)) := (by rw [← hf]; rfl); clear hf; rintro w' ⟨h0, h1, h2, h3, h4, h5, h6, h7, h8⟩; go_simp; try exact IntWalk.i64_in _ (by omega)
    refine obe_call (by rfl) ?_ ?_ ?_
    · clear k1_b3_0 g1_b3_0 k1_b3_1 g1_b3_1 k1_b3_2 g1_b3_2 k1_b3_3 g1_b3_3 e1_0 B1 z1; intro f hf; have u29 : f 29 = (.agg #[.int .u8 r, .int .u8 g, .int .u8 b, .int .u8 a]) := (by rw [← hf]; rfl); clear hf; intro w' _; simp only [execOp, resolve, invoke, rhoF_tmp, rhoF_func, rhoF_const, u29, List.map_toArray, List.map_cons, List.map_nil]; go_simp
    · clear k1_b3_0 g1_b3_0 k1_b3_1 g1_b3_1 k1_b3_2 g1_b3_2 k1_b3_3 g1_b3_3 e1_0 B1 z1; rintro w' ⟨h0, h1, h2, h3, h4, h5, h6, h7, h8⟩; exact rpclamp_any r g b a cr cg cb hr hg hb _
    refine obe_val (by rfl) ?_ ?_
    · clear k1_b3_0 g1_b3_0 k1_b3_1 g1_b3_1 k1_b3_2 g1_b3_2 k1_b3_3 g1_b3_3 e1_0 B1 z1; intro f hf; have u28 : f 28 = (.agg #[.int .u8 cr, .int .u8 cg, .int .u8 cb, .int .u8 a]) := (by rw [← hf]; rfl); have u30 : f 30 = (.agg #[.int .u8 cr, .int .u8 cg, .int .u8 cb, .int .u8 a]) := (by rw [← hf]; rfl); clear hf; rintro w' ⟨h0, h1, h2, h3, h4, h5, h6, h7, h8⟩; go_simp; try exact IntWalk.i64_in _ (by omega)
    refine obe_val (by rfl) ?_ ?_
    · clear k1_b3_0 g1_b3_0 k1_b3_1 g1_b3_1 k1_b3_2 g1_b3_2 k1_b3_3 g1_b3_3 e1_0 B1 z1; intro f hf; have u24 : f 24 = (.bool true) := (by rw [← hf]; rfl); have u31 : f 31 = (.bool true) := (by rw [← hf]; rfl); clear hf; rintro w' ⟨h0, h1, h2, h3, h4, h5, h6, h7, h8⟩; go_simp; try exact IntWalk.i64_in _ (by omega)
    refine obe_val (by rfl) ?_ ?_
    · clear k1_b3_0 g1_b3_0 k1_b3_1 g1_b3_1 k1_b3_2 g1_b3_2 k1_b3_3 g1_b3_3 e1_0 B1 z1; intro f hf; have u32 : f 32 = (.bool true) := (by rw [← hf]; rfl); clear hf; rintro w' ⟨h0, h1, h2, h3, h4, h5, h6, h7, h8⟩; go_simp; try exact IntWalk.i64_in _ (by omega)
    refine obe_call (by rfl) ?_ ?_ ?_
    · clear k1_b3_0 g1_b3_0 k1_b3_1 g1_b3_1 k1_b3_2 g1_b3_2 k1_b3_3 g1_b3_3 e1_0 B1 z1; intro f hf; clear hf; intro w' _; simp only [execOp, resolve, invoke, rhoF_tmp, rhoF_func, rhoF_const, List.map_toArray, List.map_cons, List.map_nil]; go_simp
    · clear k1_b3_0 g1_b3_0 k1_b3_1 g1_b3_1 k1_b3_2 g1_b3_2 k1_b3_3 g1_b3_3 e1_0 B1 z1; rintro w' ⟨h0, h1, h2, h3, h4, h5, h6, h7, h8⟩; exact bex_any _ (by assumption)
    refine obe_val (by rfl) ?_ ?_
    · clear k1_b3_0 g1_b3_0 k1_b3_1 g1_b3_1 k1_b3_2 g1_b3_2 k1_b3_3 g1_b3_3 e1_0 B1 z1; intro f hf; have u33 : f 33 = (.bool true) := (by rw [← hf]; rfl); have u34 : f 34 = (.bool true) := (by rw [← hf]; rfl); clear hf; rintro w' ⟨h0, h1, h2, h3, h4, h5, h6, h7, h8⟩; go_simp; try exact IntWalk.i64_in _ (by omega)
    refine obe_val (by rfl) ?_ ?_
    · clear k1_b3_0 g1_b3_0 k1_b3_1 g1_b3_1 k1_b3_2 g1_b3_2 k1_b3_3 g1_b3_3 e1_0 B1 z1; intro f hf; have u35 : f 35 = (.bool true) := (by rw [← hf]; rfl); clear hf; rintro w' ⟨h0, h1, h2, h3, h4, h5, h6, h7, h8⟩; go_simp; try exact IntWalk.i64_in _ (by omega)
    refine obe_nil ?_
    rintro w2 ⟨h0, h1, h2, h3, h4, h5, h6, h7, h8⟩ hb2 hF
    (try simp only [List.nil_append, List.append_nil, List.cons_append] at hF)
    simp only [puts, putD, Act.put, List.setIfInBounds_toArray, List.set_cons_zero, List.set_cons_succ]
    clear hF
    have k2_b3_0 := bcs hb2 k1_b3_0
    have g2_b3_0 := bfs hb2 k1_b3_0 g1_b3_0
    have k2_b3_1 := bcs hb2 k1_b3_1
    have g2_b3_1 := bfs hb2 k1_b3_1 g1_b3_1
    have k2_b3_2 := bcs hb2 k1_b3_2
    have g2_b3_2 := bfs hb2 k1_b3_2 g1_b3_2
    have k2_b3_3 := bcs hb2 k1_b3_3
    have g2_b3_3 := bfs hb2 k1_b3_3 g1_b3_3
    clear h0 h1 h2 h3 h4 h5 h6 h7 h8
    have B2 := bel_step B1 hb2
    have z2 := Nat.le_trans z1 hb2.size
    have e2_0 := Nm.below hN B2
    clear hb2
    (try clear B1)
    (try clear z1)
    (try clear k1_b3_0)
    (try clear g1_b3_0)
    (try clear k1_b3_1)
    (try clear g1_b3_1)
    (try clear k1_b3_2)
    (try clear g1_b3_2)
    (try clear k1_b3_3)
    (try clear g1_b3_3)
    (try clear e1_0)
    (try clear q1_b3)
    (try clear x1_b3)
    (try clear y1_b3)
    have q2_b3 : w.heap.size < w2.heap.size := qlt k2_b3_0
    have x2_b3 : ¬ w.heap.size = w2.heap.size := qne k2_b3_0
    have y2_b3 : ¬ w2.heap.size = w.heap.size := fun h => qne k2_b3_0 h.symm
    unfold wpList
    go_wp2
    go_ret
    refine ⟨rfl, ?_⟩
    repeat (first | with_reducible exact Below.refl _ _ | with_reducible exact B2 | with_reducible apply below_drewN | with_reducible apply Below.drew | (with_reducible refine Below.alloc ?_ (by first | (simp; done) | (simp; omega) | omega) _) | (with_reducible refine Below.setCell ?_ (by first | (simp; done) | (simp; omega) | omega) _))
  · rw [show (decide (1 ≤ m) && decide (m ≤ 13)) = false by simp; omega] at cv
    have c3 := fun w => blendX_any m 0 0 0 0 r g b a hm w
    clear hm
    go_enter Tryd.func7, Tryd.ntmps7
    go_wp2_with (first | (go_at_call 17; (with_reducible refine (cv _).mono ?_); rintro e w9 ⟨rfl, rfl⟩))
    refine wp_region_env (fun w' => w'.cell? ⟨w.heap.size, 0, none⟩ = some (.int .u8 r) ∧ w'.frozen? ⟨w.heap.size, 0, none⟩ = false ∧ w'.cell? ⟨w.heap.size, 1, none⟩ = some (.int .u8 g) ∧ w'.frozen? ⟨w.heap.size, 1, none⟩ = false ∧ w'.cell? ⟨w.heap.size, 2, none⟩ = some (.int .u8 b) ∧ w'.frozen? ⟨w.heap.size, 2, none⟩ = false ∧ w'.cell? ⟨w.heap.size, 3, none⟩ = some (.int .u8 a) ∧ w'.frozen? ⟨w.heap.size, 3, none⟩ = false ∧ Nm w') (fun W => W.cell? ⟨w.heap.size, 0, none⟩ = some (.int .u8 r) ∧ W.frozen? ⟨w.heap.size, 0, none⟩ = false ∧ W.cell? ⟨w.heap.size, 1, none⟩ = some (.int .u8 g) ∧ W.frozen? ⟨w.heap.size, 1, none⟩ = false ∧ W.cell? ⟨w.heap.size, 2, none⟩ = some (.int .u8 b) ∧ W.frozen? ⟨w.heap.size, 2, none⟩ = false ∧ W.cell? ⟨w.heap.size, 3, none⟩ = some (.int .u8 a) ∧ W.frozen? ⟨w.heap.size, 3, none⟩ = false ∧ Nm W ∧ Below w.heap.size w W ∧ w.heap.size + 1 ≤ W.heap.size) 10 36 [.val (.int .i64 m), .val (.agg #[.int .u8 0, .int .u8 0, .int .u8 0, .int .u8 0]), .val (.agg #[.int .u8 r, .int .u8 g, .int .u8 b, .int .u8 a]), .call 23 #[.int .i64 m, .agg #[.int .u8 0, .int .u8 0, .int .u8 0, .int .u8 0], .agg #[.int .u8 r, .int .u8 g, .int .u8 b, .int .u8 a]] (.agg #[.int .u8 r, .int .u8 g, .int .u8 b, .int .u8 a]), .val (.agg #[.int .u8 r, .int .u8 g, .int .u8 b, .int .u8 a]), .val (.bool true), .val (.bool true), .call 20 #[] (.bool true), .val (.bool true), .val (.bool true)] (by kernel_rfl) (by kernel_rfl) rfl (by kernel_rfl) (by rintro w1 w2 ⟨h0, h1, h2, h3, h4, h5, h6, h7, h8⟩ hb; exact ⟨bcs hb h0, bfs hb h0 h1, bcs hb h2, bfs hb h2 h3, bcs hb h4, bfs hb h4 h5, bcs hb h6, bfs hb h6 h7, Nm.below h8 hb⟩) ⟨by first | with_reducible assumption | go_simp, by first | with_reducible assumption | go_simp, by first | with_reducible assumption | go_simp, by first | with_reducible assumption | go_simp, by first | with_reducible assumption | go_simp, by first | with_reducible assumption | go_simp, by first | with_reducible assumption | go_simp, by first | with_reducible assumption | go_simp, Nm.below hN (by repeat (first | with_reducible exact Below.refl _ _ | fail | with_reducible apply below_drewN | with_reducible apply Below.drew | (with_reducible refine Below.alloc ?_ (by first | (simp; done) | (simp; omega) | omega) _) | (with_reducible refine Below.setCell ?_ (by first | (simp; done) | (simp; omega) | omega) _))), by repeat (first | with_reducible exact Below.refl _ _ | fail | with_reducible apply below_drewN | with_reducible apply Below.drew | (with_reducible refine Below.alloc ?_ (by first | (simp; done) | (simp; omega) | omega) _) | (with_reducible refine Below.setCell ?_ (by first | (simp; done) | (simp; omega) | omega) _)), by first | with_reducible assumption | (simp; done) | (simp; omega)⟩ ?_ ?_
    · rintro W ⟨k1_b3_0, g1_b3_0, k1_b3_1, g1_b3_1, k1_b3_2, g1_b3_2, k1_b3_3, g1_b3_3, e1_0, B1, z1⟩; exact ⟨k1_b3_0, g1_b3_0, k1_b3_1, g1_b3_1, k1_b3_2, g1_b3_2, k1_b3_3, g1_b3_3, e1_0⟩
    rintro w1 ⟨k1_b3_0, g1_b3_0, k1_b3_1, g1_b3_1, k1_b3_2, g1_b3_2, k1_b3_3, g1_b3_3, e1_0, B1, z1⟩ gg
    simp only [List.take_succ_cons, List.take_zero, List.drop_succ_cons, List.drop_zero, List.cons_append, List.nil_append, List.append_nil]
    refine obe_val (by rfl) ?_ ?_
    · clear k1_b3_0 g1_b3_0 k1_b3_1 g1_b3_1 k1_b3_2 g1_b3_2 k1_b3_3 g1_b3_3 e1_0 B1 z1; intro f hf; have u0 : f 0 = (.int .i64 m) := (by rw [← hf]; rfl); clear hf; rintro w' ⟨h0, h1, h2, h3, h4, h5, h6, h7, h8⟩; go_simp; try exact IntWalk.i64_in _ (by omega)
    refine obe_val (by rfl) ?_ ?_
    · clear k1_b3_0 g1_b3_0 k1_b3_1 g1_b3_1 k1_b3_2 g1_b3_2 k1_b3_3 g1_b3_3 e1_0 B1 z1; intro f hf; clear hf; rintro w' ⟨h0, h1, h2, h3, h4, h5, h6, h7, h8⟩; go_simp; try exact IntWalk.i64_in _ (by omega)
    refine obe_val (by rfl) ?_ ?_
    · clear k1_b3_0 g1_b3_0 k1_b3_1 g1_b3_1 k1_b3_2 g1_b3_2 k1_b3_3 g1_b3_3 e1_0 B1 z1; intro f hf; have u3 : f 3 = (.pointer (some ⟨w.heap.size, 0, none⟩)) := (by rw [← hf]; rfl); clear hf; rintro w' ⟨h0, h1, h2, h3, h4, h5, h6, h7, h8⟩; go_simp; try exact IntWalk.i64_in _ (by omega)
    refine obe_call (by rfl) ?_ ?_ ?_
    · clear k1_b3_0 g1_b3_0 k1_b3_1 g1_b3_1 k1_b3_2 g1_b3_2 k1_b3_3 g1_b3_3 e1_0 B1 z1; intro f hf; have u8 : f 8 = (.int .i64 m) := (by rw [← hf]; rfl); have u9 : f 9 = (.agg #[.int .u8 0, .int .u8 0, .int .u8 0, .int .u8 0]) := (by rw [← hf]; rfl); have u10 : f 10 = (.agg #[.int .u8 r, .int .u8 g, .int .u8 b, .int .u8 a]) := (by rw [← hf]; rfl); clear hf; intro w' _; simp only [execOp, resolve, invoke, rhoF_tmp, rhoF_func, rhoF_const, u8, u9, u10, List.map_toArray, List.map_cons, List.map_nil]; go_simp
    · clear k1_b3_0 g1_b3_0 k1_b3_1 g1_b3_1 k1_b3_2 g1_b3_2 k1_b3_3 g1_b3_3 e1_0 B1 z1; rintro w' ⟨h0, h1, h2, h3, h4, h5, h6, h7, h8⟩; exact c3 _
    refine obe_val (by rfl) ?_ ?_
    · clear k1_b3_0 g1_b3_0 k1_b3_1 g1_b3_1 k1_b3_2 g1_b3_2 k1_b3_3 g1_b3_3 e1_0 B1 z1; intro f hf; have u3 : f 3 = (.pointer (some ⟨w.heap.size, 0, none⟩)) := (by rw [← hf]; rfl); clear hf; rintro w' ⟨h0, h1, h2, h3, h4, h5, h6, h7, h8⟩; go_simp; try exact IntWalk.i64_in _ (by omega)
    refine obe_val (by rfl) ?_ ?_
    · clear k1_b3_0 g1_b3_0 k1_b3_1 g1_b3_1 k1_b3_2 g1_b3_2 k1_b3_3 g1_b3_3 e1_0 B1 z1; intro f hf; have u11 : f 11 = (.agg #[.int .u8 r, .int .u8 g, .int .u8 b, .int .u8 a]) := (by rw [← hf]; rfl); have u12 : f 12 = (.agg #[.int .u8 r, .int .u8 g, .int .u8 b, .int .u8 a]) := (by rw [← hf]; rfl); clear hf; rintro w' ⟨h0, h1, h2, h3, h4, h5, h6, h7, h8⟩; go_simp; try exact IntWalk.i64_in _ (by omega)
    refine obe_val (by rfl) ?_ ?_
    · clear k1_b3_0 g1_b3_0 k1_b3_1 g1_b3_1 k1_b3_2 g1_b3_2 k1_b3_3 g1_b3_3 e1_0 B1 z1; intro f hf; have u13 : f 13 = (.bool true) := (by rw [← hf]; rfl); clear hf; rintro w' ⟨h0, h1, h2, h3, h4, h5, h6, h7, h8⟩; go_simp; try exact IntWalk.i64_in _ (by omega)
    refine obe_call (by rfl) ?_ ?_ ?_
    · clear k1_b3_0 g1_b3_0 k1_b3_1 g1_b3_1 k1_b3_2 g1_b3_2 k1_b3_3 g1_b3_3 e1_0 B1 z1; intro f hf; clear hf; intro w' _; simp only [execOp, resolve, invoke, rhoF_tmp, rhoF_func, rhoF_const, List.map_toArray, List.map_cons, List.map_nil]; go_simp
    · clear k1_b3_0 g1_b3_0 k1_b3_1 g1_b3_1 k1_b3_2 g1_b3_2 k1_b3_3 g1_b3_3 e1_0 B1 z1; rintro w' ⟨h0, h1, h2, h3, h4, h5, h6, h7, h8⟩; exact bex_any _ (by assumption)
    refine obe_val (by rfl) ?_ ?_
    · clear k1_b3_0 g1_b3_0 k1_b3_1 g1_b3_1 k1_b3_2 g1_b3_2 k1_b3_3 g1_b3_3 e1_0 B1 z1; intro f hf; have u14 : f 14 = (.bool true) := (by rw [← hf]; rfl); have u15 : f 15 = (.bool true) := (by rw [← hf]; rfl); clear hf; rintro w' ⟨h0, h1, h2, h3, h4, h5, h6, h7, h8⟩; go_simp; try exact IntWalk.i64_in _ (by omega)
    refine obe_val (by rfl) ?_ ?_
    · clear k1_b3_0 g1_b3_0 k1_b3_1 g1_b3_1 k1_b3_2 g1_b3_2 k1_b3_3 g1_b3_3 e1_0 B1 z1; intro f hf; have u16 : f 16 = (.bool true) := (by rw [← hf]; rfl); clear hf; rintro w' ⟨h0, h1, h2, h3, h4, h5, h6, h7, h8⟩; go_simp; try exact IntWalk.i64_in _ (by omega)
    refine obe_nil ?_
    rintro w2 ⟨h0, h1, h2, h3, h4, h5, h6, h7, h8⟩ hb2 hF
    (try simp only [List.nil_append, List.append_nil, List.cons_append] at hF)
    simp only [puts, putD, Act.put, List.setIfInBounds_toArray, List.set_cons_zero, List.set_cons_succ]
    clear hF
    have k2_b3_0 := bcs hb2 k1_b3_0
    have g2_b3_0 := bfs hb2 k1_b3_0 g1_b3_0
    have k2_b3_1 := bcs hb2 k1_b3_1
    have g2_b3_1 := bfs hb2 k1_b3_1 g1_b3_1
    have k2_b3_2 := bcs hb2 k1_b3_2
    have g2_b3_2 := bfs hb2 k1_b3_2 g1_b3_2
    have k2_b3_3 := bcs hb2 k1_b3_3
    have g2_b3_3 := bfs hb2 k1_b3_3 g1_b3_3
    clear h0 h1 h2 h3 h4 h5 h6 h7 h8
    have B2 := bel_step B1 hb2
    have z2 := Nat.le_trans z1 hb2.size
    have e2_0 := Nm.below hN B2
    clear hb2
    (try clear B1)
    (try clear z1)
    (try clear k1_b3_0)
    (try clear g1_b3_0)
    (try clear k1_b3_1)
    (try clear g1_b3_1)
    (try clear k1_b3_2)
    (try clear g1_b3_2)
    (try clear k1_b3_3)
    (try clear g1_b3_3)
    (try clear e1_0)
    (try clear q1_b3)
    (try clear x1_b3)
    (try clear y1_b3)
    have q2_b3 : w.heap.size < w2.heap.size := qlt k2_b3_0
    have x2_b3 : ¬ w.heap.size = w2.heap.size := qne k2_b3_0
    have y2_b3 : ¬ w2.heap.size = w.heap.size := fun h => qne k2_b3_0 h.symm
    unfold wpList
    go_wp2
    go_ret
    refine ⟨rfl, ?_⟩
    repeat (first | with_reducible exact Below.refl _ _ | with_reducible exact B2 | with_reducible apply below_drewN | with_reducible apply Below.drew | (with_reducible refine Below.alloc ?_ (by first | (simp; done) | (simp; omega) | omega) _) | (with_reducible refine Below.setCell ?_ (by first | (simp; done) | (simp; omega) | omega) _))
end Go.Proofs.YtdhajiaepaamgaaDoor
