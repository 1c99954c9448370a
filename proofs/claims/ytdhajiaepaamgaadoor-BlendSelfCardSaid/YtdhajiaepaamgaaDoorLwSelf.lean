import Derived.Test.YtdhajiaepaamgaaDoorO1
import Derived.WalkKit
import Derived.Deep.CutRange
import Derived.WalkSpells
import Derived.WalkLawsBesides
import Derived.Lib.Hide
import Derived.Below
import Derived.Deep.QuietTactic
import Derived.BigQuiet
import Derived.Deep.RegionHeld3
import Derived.Deep.DrawnRows
import Derived.Deep.DeepFit
import Derived.IntWalk
namespace Go.Proofs.YtdhajiaepaamgaaDoor
open Go.RowKit
set_option linter.unusedVariables false
set_option linter.unusedSimpArgs false
attribute [local go_sem ↓] Go.wp_at_zero Go.wp_at_succ
attribute [local go_sem] rhoF_tmp rhoF_const rhoF_global rhoF_func

theorem self_any (m r g b : Int) (hm : m = 10 ∨ m = 11 ∨ m = 12 ∨ m = 13) (r0 : 0 ≤ r) (r1 : r ≤ 255) (g0 : 0 ≤ g) (g1 : g ≤ 255) (b0 : 0 ≤ b) (b1 : b ≤ 255) (w : World) :
    Calls Tryd.prog 23 #[.int .i64 m, .agg #[.int .u8 r, .int .u8 g, .int .u8 b, .int .u8 255], .agg #[.int .u8 r, .int .u8 g, .int .u8 b, .int .u8 255]] w fun e w' => e = .returned (.agg #[.int .u8 r, .int .u8 g, .int .u8 b, .int .u8 255]) ∧ Below w.heap.size w w' := by
  have hA0 : 0 ≤ 255 * min r 255 ∧ 255 * min r 255 ≤ 65025 := by omega
  have hA1 : 0 ≤ 255 * min g 255 ∧ 255 * min g 255 ≤ 65025 := by omega
  have hA2 : 0 ≤ 255 * min b 255 ∧ 255 * min b 255 ≤ 65025 := by omega
  have sA := st3_bd hA0 hA1 hA2
  have e0 := nsQ_self (c := 255 * min r 255) (v := min r 255) hA0 hA1 hA2 ⟨sA.2.2.2.2.2.2.1, sA.2.2.2.2.2.2.2.2.2.1⟩ rfl
  have e1 := nsQ_self (c := 255 * min g 255) (v := min g 255) hA0 hA1 hA2 ⟨sA.2.2.2.2.2.2.2.1, sA.2.2.2.2.2.2.2.2.2.2.1⟩ rfl
  have e2 := nsQ_self (c := 255 * min b 255) (v := min b 255) hA0 hA1 hA2 ⟨sA.2.2.2.2.2.2.2.2.1, sA.2.2.2.2.2.2.2.2.2.2.2⟩ rfl
  rcases hm with rfl | rfl | rfl | rfl
  · have c := blendC_any 10 r g b 255 r g b 255 _ _ _ (by omega) (by omega) r0 r1 g0 g1 b0 b1 (by omega) (by omega) r0 r1 g0 g1 b0 b1 (by omega) (by omega) (fun w => bcol10_any (min r 255) (min g 255) (min b 255) 255 (min r 255) (min g 255) (min b 255) 255 (by omega) (by omega) (by omega) (by omega) (by omega) (by omega) (by omega) (by omega) (by omega) (by omega) (by omega) (by omega) (by omega) (by omega) (by omega) (by omega) (by omega) (by omega) (by omega) (by omega) (by omega) (by omega) w) w
    rw [al_op, e0, e1, e2, show min r 255 = r by omega, show min g 255 = g by omega, show min b 255 = b by omega] at c
    exact c
  · have c := blendC_any 11 r g b 255 r g b 255 _ _ _ (by omega) (by omega) r0 r1 g0 g1 b0 b1 (by omega) (by omega) r0 r1 g0 g1 b0 b1 (by omega) (by omega) (fun w => bcol11_any (min r 255) (min g 255) (min b 255) 255 (min r 255) (min g 255) (min b 255) 255 (by omega) (by omega) (by omega) (by omega) (by omega) (by omega) (by omega) (by omega) (by omega) (by omega) (by omega) (by omega) (by omega) (by omega) (by omega) (by omega) (by omega) (by omega) (by omega) (by omega) (by omega) (by omega) w) w
    rw [al_op, e0, e1, e2, show min r 255 = r by omega, show min g 255 = g by omega, show min b 255 = b by omega] at c
    exact c
  · have c := blendC_any 12 r g b 255 r g b 255 _ _ _ (by omega) (by omega) r0 r1 g0 g1 b0 b1 (by omega) (by omega) r0 r1 g0 g1 b0 b1 (by omega) (by omega) (fun w => bcol12_any (min r 255) (min g 255) (min b 255) 255 (min r 255) (min g 255) (min b 255) 255 (by omega) (by omega) (by omega) (by omega) (by omega) (by omega) (by omega) (by omega) (by omega) (by omega) (by omega) (by omega) (by omega) (by omega) (by omega) (by omega) (by omega) (by omega) (by omega) (by omega) (by omega) (by omega) w) w
    rw [al_op, e0, e1, e2, show min r 255 = r by omega, show min g 255 = g by omega, show min b 255 = b by omega] at c
    exact c
  · have c := blendC_any 13 r g b 255 r g b 255 _ _ _ (by omega) (by omega) r0 r1 g0 g1 b0 b1 (by omega) (by omega) r0 r1 g0 g1 b0 b1 (by omega) (by omega) (fun w => bcol13_any (min r 255) (min g 255) (min b 255) 255 (min r 255) (min g 255) (min b 255) 255 (by omega) (by omega) (by omega) (by omega) (by omega) (by omega) (by omega) (by omega) (by omega) (by omega) (by omega) (by omega) (by omega) (by omega) (by omega) (by omega) (by omega) (by omega) (by omega) (by omega) (by omega) (by omega) w) w
    rw [al_op, e0, e1, e2, show min r 255 = r by omega, show min g 255 = g by omega, show min b 255 = b by omega] at c
    exact c

set_option maxRecDepth 20000 in
set_option maxHeartbeats 8000000 in
theorem bself_w (r g b a s t u d : Int) (r0 : 0 ≤ r) (r1 : r ≤ 255) (g0 : 0 ≤ g) (g1 : g ≤ 255) (b0 : 0 ≤ b) (b1 : b ≤ 255) (a0 : 0 ≤ a) (a1 : a ≤ 255) (s0 : 0 ≤ s) (s1 : s ≤ 255) (t0 : 0 ≤ t) (t1 : t ≤ 255) (u0 : 0 ≤ u) (u1 : u ≤ 255) (d0 : 0 ≤ d) (d1 : d ≤ 255) (w : World) (hN : Nm w) :
    Calls Tryd.prog 11 #[.agg #[.int .u8 r, .int .u8 g, .int .u8 b, .int .u8 a], .agg #[.int .u8 s, .int .u8 t, .int .u8 u, .int .u8 d]] w fun e w' => e = .returned (.bool true) ∧ Below w.heap.size w w' := by
  have cse10 := fun w => self_any 10 r g b (by omega) r0 r1 g0 g1 b0 b1 w
  have cse11 := fun w => self_any 11 r g b (by omega) r0 r1 g0 g1 b0 b1 w
  have cse12 := fun w => self_any 12 r g b (by omega) r0 r1 g0 g1 b0 b1 w
  have cse13 := fun w => self_any 13 r g b (by omega) r0 r1 g0 g1 b0 b1 w
  have c12 := fun w => blendC_any 12 r g b 255 s t u 255 _ _ _ (by omega) (by omega) r0 r1 g0 g1 b0 b1 (by omega) (by omega) s0 s1 t0 t1 u0 u1 (by omega) (by omega) (fun w => bcol12_any (min r 255) (min g 255) (min b 255) 255 (min s 255) (min t 255) (min u 255) 255 (by omega) (by omega) (by omega) (by omega) (by omega) (by omega) (by omega) (by omega) (by omega) (by omega) (by omega) (by omega) (by omega) (by omega) (by omega) (by omega) (by omega) (by omega) (by omega) (by omega) (by omega) (by omega) w) w
  have c13 := fun w => blendC_any 13 s t u 255 r g b 255 _ _ _ (by omega) (by omega) s0 s1 t0 t1 u0 u1 (by omega) (by omega) r0 r1 g0 g1 b0 b1 (by omega) (by omega) (fun w => bcol13_any (min s 255) (min t 255) (min u 255) 255 (min r 255) (min g 255) (min b 255) 255 (by omega) (by omega) (by omega) (by omega) (by omega) (by omega) (by omega) (by omega) (by omega) (by omega) (by omega) (by omega) (by omega) (by omega) (by omega) (by omega) (by omega) (by omega) (by omega) (by omega) (by omega) (by omega) w) w
  rw [al_op] at c12 c13
  have sw : ∀ x0 x1 x2 t l aa v u c, nsQ x0 x1 x2 t l aa u 255 v 255 c = nsQ x0 x1 x2 t l aa v 255 u 255 c := by intro x0 x1 x2 t l aa v u c; unfold nsQ; rw [unc_op, unc_op]
  rw [sw _ _ _ _ _ _ (min r 255) (min s 255), sw _ _ _ _ _ _ (min g 255) (min t 255), sw _ _ _ _ _ _ (min b 255) (min u 255)] at c13
  obtain ⟨pz0, hz0⟩ : ∃ z, nsQ (255 * min r 255) (255 * min g 255) (255 * min b 255) (st3 (255 * min r 255) (255 * min g 255) (255 * min b 255)) (lm3 (255 * min s 255) (255 * min t 255) (255 * min u 255)) (255 * 255) (min r 255) 255 (min s 255) 255 (255 * min r 255) = z := ⟨_, rfl⟩
  obtain ⟨pz1, hz1⟩ : ∃ z, nsQ (255 * min r 255) (255 * min g 255) (255 * min b 255) (st3 (255 * min r 255) (255 * min g 255) (255 * min b 255)) (lm3 (255 * min s 255) (255 * min t 255) (255 * min u 255)) (255 * 255) (min g 255) 255 (min t 255) 255 (255 * min g 255) = z := ⟨_, rfl⟩
  obtain ⟨pz2, hz2⟩ : ∃ z, nsQ (255 * min r 255) (255 * min g 255) (255 * min b 255) (st3 (255 * min r 255) (255 * min g 255) (255 * min b 255)) (lm3 (255 * min s 255) (255 * min t 255) (255 * min u 255)) (255 * 255) (min b 255) 255 (min u 255) 255 (255 * min b 255) = z := ⟨_, rfl⟩
  rw [hz0, hz1, hz2] at c12 c13
  clear hz0 hz1 hz2 sw
  go_enter Tryd.func11, Tryd.ntmps11
  go_wp2
  go_cut [5, 6] from 9 to 10 (fun vx vy wc => ∃ gx gy : Nat, vx = .pointer (some ⟨gx, 0, none⟩) ∧ vy = .pointer (some ⟨gy, 0, none⟩) ∧ ¬ gx = gy ∧ w.heap.size + 1 + 1 ≤ gx ∧ w.heap.size + 1 + 1 ≤ gy ∧ wc.cell? ⟨w.heap.size, 0, none⟩ = some (.int .u8 r) ∧ wc.frozen? ⟨w.heap.size, 0, none⟩ = false ∧ wc.cell? ⟨w.heap.size, 1, none⟩ = some (.int .u8 g) ∧ wc.frozen? ⟨w.heap.size, 1, none⟩ = false ∧ wc.cell? ⟨w.heap.size, 2, none⟩ = some (.int .u8 b) ∧ wc.frozen? ⟨w.heap.size, 2, none⟩ = false ∧ wc.cell? ⟨w.heap.size, 3, none⟩ = some (.int .u8 a) ∧ wc.frozen? ⟨w.heap.size, 3, none⟩ = false ∧ wc.cell? ⟨w.heap.size + 1, 0, none⟩ = some (.int .u8 s) ∧ wc.frozen? ⟨w.heap.size + 1, 0, none⟩ = false ∧ wc.cell? ⟨w.heap.size + 1, 1, none⟩ = some (.int .u8 t) ∧ wc.frozen? ⟨w.heap.size + 1, 1, none⟩ = false ∧ wc.cell? ⟨w.heap.size + 1, 2, none⟩ = some (.int .u8 u) ∧ wc.frozen? ⟨w.heap.size + 1, 2, none⟩ = false ∧ wc.cell? ⟨w.heap.size + 1, 3, none⟩ = some (.int .u8 d) ∧ wc.frozen? ⟨w.heap.size + 1, 3, none⟩ = false ∧ wc.cell? ⟨gx, 0, none⟩ = some (.int .u8 r) ∧ wc.frozen? ⟨gx, 0, none⟩ = false ∧ wc.cell? ⟨gx, 1, none⟩ = some (.int .u8 g) ∧ wc.frozen? ⟨gx, 1, none⟩ = false ∧ wc.cell? ⟨gx, 2, none⟩ = some (.int .u8 b) ∧ wc.frozen? ⟨gx, 2, none⟩ = false ∧ wc.cell? ⟨gx, 3, none⟩ = some (.int .u8 a) ∧ wc.frozen? ⟨gx, 3, none⟩ = false ∧ wc.cell? ⟨gy, 0, none⟩ = some (.int .u8 s) ∧ wc.frozen? ⟨gy, 0, none⟩ = false ∧ wc.cell? ⟨gy, 1, none⟩ = some (.int .u8 t) ∧ wc.frozen? ⟨gy, 1, none⟩ = false ∧ wc.cell? ⟨gy, 2, none⟩ = some (.int .u8 u) ∧ wc.frozen? ⟨gy, 2, none⟩ = false ∧ wc.cell? ⟨gy, 3, none⟩ = some (.int .u8 d) ∧ wc.frozen? ⟨gy, 3, none⟩ = false ∧ Below w.heap.size w wc)
  case first =>
    go_region
    all_goals go_wp2
    all_goals go_meet
    all_goals refine ⟨_, _, rfl, rfl, by first | (simp; done) | (simp; omega) | omega, by first | (simp; done) | (simp; omega) | omega, by first | (simp; done) | (simp; omega) | omega, by first | with_reducible assumption | go_simp, by first | with_reducible assumption | go_simp, by first | with_reducible assumption | go_simp, by first | with_reducible assumption | go_simp, by first | with_reducible assumption | go_simp, by first | with_reducible assumption | go_simp, by first | with_reducible assumption | go_simp, by first | with_reducible assumption | go_simp, by first | with_reducible assumption | go_simp, by first | with_reducible assumption | go_simp, by first | with_reducible assumption | go_simp, by first | with_reducible assumption | go_simp, by first | with_reducible assumption | go_simp, by first | with_reducible assumption | go_simp, by first | with_reducible assumption | go_simp, by first | with_reducible assumption | go_simp, by first | with_reducible assumption | go_simp, by first | with_reducible assumption | go_simp, by first | with_reducible assumption | go_simp, by first | with_reducible assumption | go_simp, by first | with_reducible assumption | go_simp, by first | with_reducible assumption | go_simp, by first | with_reducible assumption | go_simp, by first | with_reducible assumption | go_simp, by first | with_reducible assumption | go_simp, by first | with_reducible assumption | go_simp, by first | with_reducible assumption | go_simp, by first | with_reducible assumption | go_simp, by first | with_reducible assumption | go_simp, by first | with_reducible assumption | go_simp, by first | with_reducible assumption | go_simp, by first | with_reducible assumption | go_simp, by repeat (first | with_reducible exact Below.refl _ _ | fail | with_reducible apply below_drewN | with_reducible apply Below.drew | (with_reducible refine Below.alloc ?_ (by first | (simp; done) | (simp; omega) | omega) _) | (with_reducible refine Below.setCell ?_ (by first | (simp; done) | (simp; omega) | omega) _))⟩
  case rest =>
    obtain ⟨g5, g6, rfl, rfl, ng5_g6, mg5, mg6, k1_b2_0, g1_b2_0, k1_b2_1, g1_b2_1, k1_b2_2, g1_b2_2, k1_b2_3, g1_b2_3, k1_b3_0, g1_b3_0, k1_b3_1, g1_b3_1, k1_b3_2, g1_b3_2, k1_b3_3, g1_b3_3, k1_g5_0, g1_g5_0, k1_g5_1, g1_g5_1, k1_g5_2, g1_g5_2, k1_g5_3, g1_g5_3, k1_g6_0, g1_g6_0, k1_g6_1, g1_g6_1, k1_g6_2, g1_g6_2, k1_g6_3, g1_g6_3, B1⟩ := hcut
    have ng6_g5 : ¬ g6 = g5 := fun h => ng5_g6 h.symm
    have e1_0 := Nm.below hN B1
    have z1 : w.heap.size + 1 + 1 ≤ wc.heap.size := by have := qlt k1_b3_0; omega
    have ng5_b2 : ¬ g5 = w.heap.size := by omega
    have nb2_g5 : ¬ w.heap.size = g5 := by omega
    have ng6_b2 : ¬ g6 = w.heap.size := by omega
    have nb2_g6 : ¬ w.heap.size = g6 := by omega
    have ng5_b3 : ¬ g5 = w.heap.size + 1 := by omega
    have nb3_g5 : ¬ w.heap.size + 1 = g5 := by omega
    have ng6_b3 : ¬ g6 = w.heap.size + 1 := by omega
    have nb3_g6 : ¬ w.heap.size + 1 = g6 := by omega
    have q1_b2 : w.heap.size < wc.heap.size := qlt k1_b2_0
    have x1_b2 : ¬ w.heap.size = wc.heap.size := qne k1_b2_0
    have y1_b2 : ¬ wc.heap.size = w.heap.size := fun h => qne k1_b2_0 h.symm
    have xp_b2 : ¬ w.heap.size = wc.heap.size + 1 := by omega
    have yp_b2 : ¬ wc.heap.size + 1 = w.heap.size := by omega
    have q1_b3 : w.heap.size + 1 < wc.heap.size := qlt k1_b3_0
    have x1_b3 : ¬ w.heap.size + 1 = wc.heap.size := qne k1_b3_0
    have y1_b3 : ¬ wc.heap.size = w.heap.size + 1 := fun h => qne k1_b3_0 h.symm
    have xp_b3 : ¬ w.heap.size + 1 = wc.heap.size + 1 := by omega
    have yp_b3 : ¬ wc.heap.size + 1 = w.heap.size + 1 := by omega
    have q1_g5 : g5 < wc.heap.size := qlt k1_g5_0
    have x1_g5 : ¬ g5 = wc.heap.size := qne k1_g5_0
    have y1_g5 : ¬ wc.heap.size = g5 := fun h => qne k1_g5_0 h.symm
    have xp_g5 : ¬ g5 = wc.heap.size + 1 := by omega
    have yp_g5 : ¬ wc.heap.size + 1 = g5 := by omega
    have q1_g6 : g6 < wc.heap.size := qlt k1_g6_0
    have x1_g6 : ¬ g6 = wc.heap.size := qne k1_g6_0
    have y1_g6 : ¬ wc.heap.size = g6 := fun h => qne k1_g6_0 h.symm
    have xp_g6 : ¬ g6 = wc.heap.size + 1 := by omega
    have yp_g6 : ¬ wc.heap.size + 1 = g6 := by omega
    go_wp2
    go_loopw [7] (fun k wr => ∃ md : Int, k = .int .i64 md ∧ (md = 10 ∨ md = 11 ∨ md = 12 ∨ md = 13 ∨ md = 14) ∧ wr.cell? ⟨g5, 0, none⟩ = some (.int .u8 r) ∧ wr.frozen? ⟨g5, 0, none⟩ = false ∧ wr.cell? ⟨g5, 1, none⟩ = some (.int .u8 g) ∧ wr.frozen? ⟨g5, 1, none⟩ = false ∧ wr.cell? ⟨g5, 2, none⟩ = some (.int .u8 b) ∧ wr.frozen? ⟨g5, 2, none⟩ = false ∧ wr.cell? ⟨g5, 3, none⟩ = some (.int .u8 255) ∧ wr.frozen? ⟨g5, 3, none⟩ = false ∧ wr.cell? ⟨g6, 0, none⟩ = some (.int .u8 s) ∧ wr.frozen? ⟨g6, 0, none⟩ = false ∧ wr.cell? ⟨g6, 1, none⟩ = some (.int .u8 t) ∧ wr.frozen? ⟨g6, 1, none⟩ = false ∧ wr.cell? ⟨g6, 2, none⟩ = some (.int .u8 u) ∧ wr.frozen? ⟨g6, 2, none⟩ = false ∧ wr.cell? ⟨g6, 3, none⟩ = some (.int .u8 255) ∧ wr.frozen? ⟨g6, 3, none⟩ = false ∧ Below w.heap.size w wr) (fun k _ => (14 - intOf k).toNat)
    case atStart =>
      refine ⟨10, rfl, .inl rfl, by first | with_reducible assumption | go_simp, by first | with_reducible assumption | go_simp, by first | with_reducible assumption | go_simp, by first | with_reducible assumption | go_simp, by first | with_reducible assumption | go_simp, by first | with_reducible assumption | go_simp, by first | with_reducible assumption | go_simp, by first | with_reducible assumption | go_simp, by first | with_reducible assumption | go_simp, by first | with_reducible assumption | go_simp, by first | with_reducible assumption | go_simp, by first | with_reducible assumption | go_simp, by first | with_reducible assumption | go_simp, by first | with_reducible assumption | go_simp, by first | with_reducible assumption | go_simp, by first | with_reducible assumption | go_simp, by repeat (first | with_reducible exact Below.refl _ _ | with_reducible exact B1 | with_reducible apply below_drewN | with_reducible apply Below.drew | (with_reducible refine Below.alloc ?_ (by first | (simp; done) | (simp; omega) | omega) _) | (with_reducible refine Below.setCell ?_ (by first | (simp; done) | (simp; omega) | omega) _))⟩
    case round =>
      obtain ⟨md, rfl, hmd, kx0, gx0, kx1, gx1, kx2, gx2, kx3, gx3, ky0, gy0, ky1, gy1, ky2, gy2, ky3, gy3, hB⟩ := hrel
      have hNr := Nm.below hN hB
      rcases hmd with rfl | rfl | rfl | rfl | rfl
      · skip
        have hsz := hB.size
        go_wp2
        refine wp_region_env (fun w' => w'.cell? ⟨g5, 0, none⟩ = some (.int .u8 r) ∧ w'.frozen? ⟨g5, 0, none⟩ = false ∧ w'.cell? ⟨g5, 1, none⟩ = some (.int .u8 g) ∧ w'.frozen? ⟨g5, 1, none⟩ = false ∧ w'.cell? ⟨g5, 2, none⟩ = some (.int .u8 b) ∧ w'.frozen? ⟨g5, 2, none⟩ = false ∧ w'.cell? ⟨g5, 3, none⟩ = some (.int .u8 255) ∧ w'.frozen? ⟨g5, 3, none⟩ = false ∧ w'.cell? ⟨g6, 0, none⟩ = some (.int .u8 s) ∧ w'.frozen? ⟨g6, 0, none⟩ = false ∧ w'.cell? ⟨g6, 1, none⟩ = some (.int .u8 t) ∧ w'.frozen? ⟨g6, 1, none⟩ = false ∧ w'.cell? ⟨g6, 2, none⟩ = some (.int .u8 u) ∧ w'.frozen? ⟨g6, 2, none⟩ = false ∧ w'.cell? ⟨g6, 3, none⟩ = some (.int .u8 255) ∧ w'.frozen? ⟨g6, 3, none⟩ = false) (fun W => W.cell? ⟨g5, 0, none⟩ = some (.int .u8 r) ∧ W.frozen? ⟨g5, 0, none⟩ = false ∧ W.cell? ⟨g5, 1, none⟩ = some (.int .u8 g) ∧ W.frozen? ⟨g5, 1, none⟩ = false ∧ W.cell? ⟨g5, 2, none⟩ = some (.int .u8 b) ∧ W.frozen? ⟨g5, 2, none⟩ = false ∧ W.cell? ⟨g5, 3, none⟩ = some (.int .u8 255) ∧ W.frozen? ⟨g5, 3, none⟩ = false ∧ W.cell? ⟨g6, 0, none⟩ = some (.int .u8 s) ∧ W.frozen? ⟨g6, 0, none⟩ = false ∧ W.cell? ⟨g6, 1, none⟩ = some (.int .u8 t) ∧ W.frozen? ⟨g6, 1, none⟩ = false ∧ W.cell? ⟨g6, 2, none⟩ = some (.int .u8 u) ∧ W.frozen? ⟨g6, 2, none⟩ = false ∧ W.cell? ⟨g6, 3, none⟩ = some (.int .u8 255) ∧ W.frozen? ⟨g6, 3, none⟩ = false ∧ Below wr.heap.size wr W ∧ wr.heap.size ≤ W.heap.size) 6 32 [.val (.int .i64 10), .val (.agg #[.int .u8 r, .int .u8 g, .int .u8 b, .int .u8 255]), .val (.agg #[.int .u8 r, .int .u8 g, .int .u8 b, .int .u8 255]), .call 23 #[.int .i64 10, .agg #[.int .u8 r, .int .u8 g, .int .u8 b, .int .u8 255], .agg #[.int .u8 r, .int .u8 g, .int .u8 b, .int .u8 255]] (.agg #[.int .u8 r, .int .u8 g, .int .u8 b, .int .u8 255]), .val (.agg #[.int .u8 r, .int .u8 g, .int .u8 b, .int .u8 255]), .val (.bool false)] (by kernel_rfl) (by kernel_rfl) rfl (by kernel_rfl) (by rintro w1 w2 ⟨h0, h1, h2, h3, h4, h5, h6, h7, h8, h9, h10, h11, h12, h13, h14, h15⟩ hb; exact ⟨bcs hb h0, bfs hb h0 h1, bcs hb h2, bfs hb h2 h3, bcs hb h4, bfs hb h4 h5, bcs hb h6, bfs hb h6 h7, bcs hb h8, bfs hb h8 h9, bcs hb h10, bfs hb h10 h11, bcs hb h12, bfs hb h12 h13, bcs hb h14, bfs hb h14 h15⟩) ⟨bcs (by repeat (first | with_reducible exact Below.refl _ _ | fail | with_reducible apply below_drewN | with_reducible apply Below.drew | (with_reducible refine Below.alloc ?_ (by first | (simp; done) | (simp; omega) | omega) _) | (with_reducible refine Below.setCell ?_ (by first | (simp; done) | (simp; omega) | omega) _))) kx0, bfs (by repeat (first | with_reducible exact Below.refl _ _ | fail | with_reducible apply below_drewN | with_reducible apply Below.drew | (with_reducible refine Below.alloc ?_ (by first | (simp; done) | (simp; omega) | omega) _) | (with_reducible refine Below.setCell ?_ (by first | (simp; done) | (simp; omega) | omega) _))) kx0 gx0, bcs (by repeat (first | with_reducible exact Below.refl _ _ | fail | with_reducible apply below_drewN | with_reducible apply Below.drew | (with_reducible refine Below.alloc ?_ (by first | (simp; done) | (simp; omega) | omega) _) | (with_reducible refine Below.setCell ?_ (by first | (simp; done) | (simp; omega) | omega) _))) kx1, bfs (by repeat (first | with_reducible exact Below.refl _ _ | fail | with_reducible apply below_drewN | with_reducible apply Below.drew | (with_reducible refine Below.alloc ?_ (by first | (simp; done) | (simp; omega) | omega) _) | (with_reducible refine Below.setCell ?_ (by first | (simp; done) | (simp; omega) | omega) _))) kx1 gx1, bcs (by repeat (first | with_reducible exact Below.refl _ _ | fail | with_reducible apply below_drewN | with_reducible apply Below.drew | (with_reducible refine Below.alloc ?_ (by first | (simp; done) | (simp; omega) | omega) _) | (with_reducible refine Below.setCell ?_ (by first | (simp; done) | (simp; omega) | omega) _))) kx2, bfs (by repeat (first | with_reducible exact Below.refl _ _ | fail | with_reducible apply below_drewN | with_reducible apply Below.drew | (with_reducible refine Below.alloc ?_ (by first | (simp; done) | (simp; omega) | omega) _) | (with_reducible refine Below.setCell ?_ (by first | (simp; done) | (simp; omega) | omega) _))) kx2 gx2, bcs (by repeat (first | with_reducible exact Below.refl _ _ | fail | with_reducible apply below_drewN | with_reducible apply Below.drew | (with_reducible refine Below.alloc ?_ (by first | (simp; done) | (simp; omega) | omega) _) | (with_reducible refine Below.setCell ?_ (by first | (simp; done) | (simp; omega) | omega) _))) kx3, bfs (by repeat (first | with_reducible exact Below.refl _ _ | fail | with_reducible apply below_drewN | with_reducible apply Below.drew | (with_reducible refine Below.alloc ?_ (by first | (simp; done) | (simp; omega) | omega) _) | (with_reducible refine Below.setCell ?_ (by first | (simp; done) | (simp; omega) | omega) _))) kx3 gx3, bcs (by repeat (first | with_reducible exact Below.refl _ _ | fail | with_reducible apply below_drewN | with_reducible apply Below.drew | (with_reducible refine Below.alloc ?_ (by first | (simp; done) | (simp; omega) | omega) _) | (with_reducible refine Below.setCell ?_ (by first | (simp; done) | (simp; omega) | omega) _))) ky0, bfs (by repeat (first | with_reducible exact Below.refl _ _ | fail | with_reducible apply below_drewN | with_reducible apply Below.drew | (with_reducible refine Below.alloc ?_ (by first | (simp; done) | (simp; omega) | omega) _) | (with_reducible refine Below.setCell ?_ (by first | (simp; done) | (simp; omega) | omega) _))) ky0 gy0, bcs (by repeat (first | with_reducible exact Below.refl _ _ | fail | with_reducible apply below_drewN | with_reducible apply Below.drew | (with_reducible refine Below.alloc ?_ (by first | (simp; done) | (simp; omega) | omega) _) | (with_reducible refine Below.setCell ?_ (by first | (simp; done) | (simp; omega) | omega) _))) ky1, bfs (by repeat (first | with_reducible exact Below.refl _ _ | fail | with_reducible apply below_drewN | with_reducible apply Below.drew | (with_reducible refine Below.alloc ?_ (by first | (simp; done) | (simp; omega) | omega) _) | (with_reducible refine Below.setCell ?_ (by first | (simp; done) | (simp; omega) | omega) _))) ky1 gy1, bcs (by repeat (first | with_reducible exact Below.refl _ _ | fail | with_reducible apply below_drewN | with_reducible apply Below.drew | (with_reducible refine Below.alloc ?_ (by first | (simp; done) | (simp; omega) | omega) _) | (with_reducible refine Below.setCell ?_ (by first | (simp; done) | (simp; omega) | omega) _))) ky2, bfs (by repeat (first | with_reducible exact Below.refl _ _ | fail | with_reducible apply below_drewN | with_reducible apply Below.drew | (with_reducible refine Below.alloc ?_ (by first | (simp; done) | (simp; omega) | omega) _) | (with_reducible refine Below.setCell ?_ (by first | (simp; done) | (simp; omega) | omega) _))) ky2 gy2, bcs (by repeat (first | with_reducible exact Below.refl _ _ | fail | with_reducible apply below_drewN | with_reducible apply Below.drew | (with_reducible refine Below.alloc ?_ (by first | (simp; done) | (simp; omega) | omega) _) | (with_reducible refine Below.setCell ?_ (by first | (simp; done) | (simp; omega) | omega) _))) ky3, bfs (by repeat (first | with_reducible exact Below.refl _ _ | fail | with_reducible apply below_drewN | with_reducible apply Below.drew | (with_reducible refine Below.alloc ?_ (by first | (simp; done) | (simp; omega) | omega) _) | (with_reducible refine Below.setCell ?_ (by first | (simp; done) | (simp; omega) | omega) _))) ky3 gy3, by repeat (first | with_reducible exact Below.refl _ _ | fail | with_reducible apply below_drewN | with_reducible apply Below.drew | (with_reducible refine Below.alloc ?_ (by first | (simp; done) | (simp; omega) | omega) _) | (with_reducible refine Below.setCell ?_ (by first | (simp; done) | (simp; omega) | omega) _)), by first | with_reducible assumption | (simp; done) | (simp; omega)⟩ ?_ ?_
        · rintro W ⟨k1_g5_0, g1_g5_0, k1_g5_1, g1_g5_1, k1_g5_2, g1_g5_2, k1_g5_3, g1_g5_3, k1_g6_0, g1_g6_0, k1_g6_1, g1_g6_1, k1_g6_2, g1_g6_2, k1_g6_3, g1_g6_3, B1, z1⟩; exact ⟨k1_g5_0, g1_g5_0, k1_g5_1, g1_g5_1, k1_g5_2, g1_g5_2, k1_g5_3, g1_g5_3, k1_g6_0, g1_g6_0, k1_g6_1, g1_g6_1, k1_g6_2, g1_g6_2, k1_g6_3, g1_g6_3⟩
        rintro w1 ⟨k1_g5_0, g1_g5_0, k1_g5_1, g1_g5_1, k1_g5_2, g1_g5_2, k1_g5_3, g1_g5_3, k1_g6_0, g1_g6_0, k1_g6_1, g1_g6_1, k1_g6_2, g1_g6_2, k1_g6_3, g1_g6_3, B1, z1⟩ gg
        simp only [List.take_succ_cons, List.take_zero, List.drop_succ_cons, List.drop_zero, List.cons_append, List.nil_append, List.append_nil]
        refine obe_val (by rfl) ?_ ?_
        · clear k1_g5_0 g1_g5_0 k1_g5_1 g1_g5_1 k1_g5_2 g1_g5_2 k1_g5_3 g1_g5_3 k1_g6_0 g1_g6_0 k1_g6_1 g1_g6_1 k1_g6_2 g1_g6_2 k1_g6_3 g1_g6_3 B1 z1; intro f hf; have u7 : f 7 = (.int .i64 10) := (by rw [← hf]; rfl); clear hf; rintro w' ⟨h0, h1, h2, h3, h4, h5, h6, h7, h8, h9, h10, h11, h12, h13, h14, h15⟩; go_simp; try exact IntWalk.i64_in _ (by omega)
        refine obe_val (by rfl) ?_ ?_
        · clear k1_g5_0 g1_g5_0 k1_g5_1 g1_g5_1 k1_g5_2 g1_g5_2 k1_g5_3 g1_g5_3 k1_g6_0 g1_g6_0 k1_g6_1 g1_g6_1 k1_g6_2 g1_g6_2 k1_g6_3 g1_g6_3 B1 z1; intro f hf; have u5 : f 5 = (.pointer (some ⟨g5, 0, none⟩)) := (by rw [← hf]; rfl); clear hf; rintro w' ⟨h0, h1, h2, h3, h4, h5, h6, h7, h8, h9, h10, h11, h12, h13, h14, h15⟩; go_simp; try exact IntWalk.i64_in _ (by omega)
        refine obe_val (by rfl) ?_ ?_
        · clear k1_g5_0 g1_g5_0 k1_g5_1 g1_g5_1 k1_g5_2 g1_g5_2 k1_g5_3 g1_g5_3 k1_g6_0 g1_g6_0 k1_g6_1 g1_g6_1 k1_g6_2 g1_g6_2 k1_g6_3 g1_g6_3 B1 z1; intro f hf; have u5 : f 5 = (.pointer (some ⟨g5, 0, none⟩)) := (by rw [← hf]; rfl); clear hf; rintro w' ⟨h0, h1, h2, h3, h4, h5, h6, h7, h8, h9, h10, h11, h12, h13, h14, h15⟩; go_simp; try exact IntWalk.i64_in _ (by omega)
        refine obe_call (by rfl) ?_ ?_ ?_
        · clear k1_g5_0 g1_g5_0 k1_g5_1 g1_g5_1 k1_g5_2 g1_g5_2 k1_g5_3 g1_g5_3 k1_g6_0 g1_g6_0 k1_g6_1 g1_g6_1 k1_g6_2 g1_g6_2 k1_g6_3 g1_g6_3 B1 z1; intro f hf; have u16 : f 16 = (.int .i64 10) := (by rw [← hf]; rfl); have u17 : f 17 = (.agg #[.int .u8 r, .int .u8 g, .int .u8 b, .int .u8 255]) := (by rw [← hf]; rfl); have u18 : f 18 = (.agg #[.int .u8 r, .int .u8 g, .int .u8 b, .int .u8 255]) := (by rw [← hf]; rfl); clear hf; intro w' _; simp only [execOp, resolve, invoke, rhoF_tmp, rhoF_func, rhoF_const, u16, u17, u18, List.map_toArray, List.map_cons, List.map_nil]; go_simp
        · clear k1_g5_0 g1_g5_0 k1_g5_1 g1_g5_1 k1_g5_2 g1_g5_2 k1_g5_3 g1_g5_3 k1_g6_0 g1_g6_0 k1_g6_1 g1_g6_1 k1_g6_2 g1_g6_2 k1_g6_3 g1_g6_3 B1 z1; rintro w' ⟨h0, h1, h2, h3, h4, h5, h6, h7, h8, h9, h10, h11, h12, h13, h14, h15⟩; exact cse10 _
        refine obe_val (by rfl) ?_ ?_
        · clear k1_g5_0 g1_g5_0 k1_g5_1 g1_g5_1 k1_g5_2 g1_g5_2 k1_g5_3 g1_g5_3 k1_g6_0 g1_g6_0 k1_g6_1 g1_g6_1 k1_g6_2 g1_g6_2 k1_g6_3 g1_g6_3 B1 z1; intro f hf; have u5 : f 5 = (.pointer (some ⟨g5, 0, none⟩)) := (by rw [← hf]; rfl); clear hf; rintro w' ⟨h0, h1, h2, h3, h4, h5, h6, h7, h8, h9, h10, h11, h12, h13, h14, h15⟩; go_simp; try exact IntWalk.i64_in _ (by omega)
        refine obe_val (by rfl) ?_ ?_
        · clear k1_g5_0 g1_g5_0 k1_g5_1 g1_g5_1 k1_g5_2 g1_g5_2 k1_g5_3 g1_g5_3 k1_g6_0 g1_g6_0 k1_g6_1 g1_g6_1 k1_g6_2 g1_g6_2 k1_g6_3 g1_g6_3 B1 z1; intro f hf; have u19 : f 19 = (.agg #[.int .u8 r, .int .u8 g, .int .u8 b, .int .u8 255]) := (by rw [← hf]; rfl); have u20 : f 20 = (.agg #[.int .u8 r, .int .u8 g, .int .u8 b, .int .u8 255]) := (by rw [← hf]; rfl); clear hf; rintro w' ⟨h0, h1, h2, h3, h4, h5, h6, h7, h8, h9, h10, h11, h12, h13, h14, h15⟩; go_simp; try exact IntWalk.i64_in _ (by omega)
        refine obe_nil ?_
        rintro w2 ⟨h0, h1, h2, h3, h4, h5, h6, h7, h8, h9, h10, h11, h12, h13, h14, h15⟩ hb2 hF
        (try simp only [List.nil_append, List.append_nil, List.cons_append] at hF)
        simp only [puts, putD, Act.put, List.setIfInBounds_toArray, List.set_cons_zero, List.set_cons_succ]
        clear hF
        have k2_g5_0 := bcs hb2 k1_g5_0
        have g2_g5_0 := bfs hb2 k1_g5_0 g1_g5_0
        have k2_g5_1 := bcs hb2 k1_g5_1
        have g2_g5_1 := bfs hb2 k1_g5_1 g1_g5_1
        have k2_g5_2 := bcs hb2 k1_g5_2
        have g2_g5_2 := bfs hb2 k1_g5_2 g1_g5_2
        have k2_g5_3 := bcs hb2 k1_g5_3
        have g2_g5_3 := bfs hb2 k1_g5_3 g1_g5_3
        have k2_g6_0 := bcs hb2 k1_g6_0
        have g2_g6_0 := bfs hb2 k1_g6_0 g1_g6_0
        have k2_g6_1 := bcs hb2 k1_g6_1
        have g2_g6_1 := bfs hb2 k1_g6_1 g1_g6_1
        have k2_g6_2 := bcs hb2 k1_g6_2
        have g2_g6_2 := bfs hb2 k1_g6_2 g1_g6_2
        have k2_g6_3 := bcs hb2 k1_g6_3
        have g2_g6_3 := bfs hb2 k1_g6_3 g1_g6_3
        clear h0 h1 h2 h3 h4 h5 h6 h7 h8 h9 h10 h11 h12 h13 h14 h15
        have B2 := bel_step B1 hb2
        have z2 := Nat.le_trans z1 hb2.size
        clear hb2
        (try clear B1)
        (try clear z1)
        (try clear k1_g5_0)
        (try clear g1_g5_0)
        (try clear k1_g5_1)
        (try clear g1_g5_1)
        (try clear k1_g5_2)
        (try clear g1_g5_2)
        (try clear k1_g5_3)
        (try clear g1_g5_3)
        (try clear k1_g6_0)
        (try clear g1_g6_0)
        (try clear k1_g6_1)
        (try clear g1_g6_1)
        (try clear k1_g6_2)
        (try clear g1_g6_2)
        (try clear k1_g6_3)
        (try clear g1_g6_3)
        (try clear q1_g5)
        (try clear x1_g5)
        (try clear y1_g5)
        (try clear q1_g6)
        (try clear x1_g6)
        (try clear y1_g6)
        have q2_g5 : g5 < w2.heap.size := qlt k2_g5_0
        have x2_g5 : ¬ g5 = w2.heap.size := qne k2_g5_0
        have y2_g5 : ¬ w2.heap.size = g5 := fun h => qne k2_g5_0 h.symm
        have q2_g6 : g6 < w2.heap.size := qlt k2_g6_0
        have x2_g6 : ¬ g6 = w2.heap.size := qne k2_g6_0
        have y2_g6 : ¬ w2.heap.size = g6 := fun h => qne k2_g6_0 h.symm
        unfold wpList
        go_wp2
        go_roundw
        case rel => exact ⟨11, rfl, by omega, by first | with_reducible assumption | go_simp, by first | with_reducible assumption | go_simp, by first | with_reducible assumption | go_simp, by first | with_reducible assumption | go_simp, by first | with_reducible assumption | go_simp, by first | with_reducible assumption | go_simp, by first | with_reducible assumption | go_simp, by first | with_reducible assumption | go_simp, by first | with_reducible assumption | go_simp, by first | with_reducible assumption | go_simp, by first | with_reducible assumption | go_simp, by first | with_reducible assumption | go_simp, by first | with_reducible assumption | go_simp, by first | with_reducible assumption | go_simp, by first | with_reducible assumption | go_simp, by first | with_reducible assumption | go_simp, by repeat (first | with_reducible exact Below.refl _ _ | with_reducible exact bel_step hB B2 | with_reducible apply below_drewN | with_reducible apply Below.drew | (with_reducible refine Below.alloc ?_ (by first | (simp; done) | (simp; omega) | omega) _) | (with_reducible refine Below.setCell ?_ (by first | (simp; done) | (simp; omega) | omega) _))⟩
        case measure => simp [intOf]
      · skip
        have hsz := hB.size
        go_wp2
        refine wp_region_env (fun w' => w'.cell? ⟨g5, 0, none⟩ = some (.int .u8 r) ∧ w'.frozen? ⟨g5, 0, none⟩ = false ∧ w'.cell? ⟨g5, 1, none⟩ = some (.int .u8 g) ∧ w'.frozen? ⟨g5, 1, none⟩ = false ∧ w'.cell? ⟨g5, 2, none⟩ = some (.int .u8 b) ∧ w'.frozen? ⟨g5, 2, none⟩ = false ∧ w'.cell? ⟨g5, 3, none⟩ = some (.int .u8 255) ∧ w'.frozen? ⟨g5, 3, none⟩ = false ∧ w'.cell? ⟨g6, 0, none⟩ = some (.int .u8 s) ∧ w'.frozen? ⟨g6, 0, none⟩ = false ∧ w'.cell? ⟨g6, 1, none⟩ = some (.int .u8 t) ∧ w'.frozen? ⟨g6, 1, none⟩ = false ∧ w'.cell? ⟨g6, 2, none⟩ = some (.int .u8 u) ∧ w'.frozen? ⟨g6, 2, none⟩ = false ∧ w'.cell? ⟨g6, 3, none⟩ = some (.int .u8 255) ∧ w'.frozen? ⟨g6, 3, none⟩ = false) (fun W => W.cell? ⟨g5, 0, none⟩ = some (.int .u8 r) ∧ W.frozen? ⟨g5, 0, none⟩ = false ∧ W.cell? ⟨g5, 1, none⟩ = some (.int .u8 g) ∧ W.frozen? ⟨g5, 1, none⟩ = false ∧ W.cell? ⟨g5, 2, none⟩ = some (.int .u8 b) ∧ W.frozen? ⟨g5, 2, none⟩ = false ∧ W.cell? ⟨g5, 3, none⟩ = some (.int .u8 255) ∧ W.frozen? ⟨g5, 3, none⟩ = false ∧ W.cell? ⟨g6, 0, none⟩ = some (.int .u8 s) ∧ W.frozen? ⟨g6, 0, none⟩ = false ∧ W.cell? ⟨g6, 1, none⟩ = some (.int .u8 t) ∧ W.frozen? ⟨g6, 1, none⟩ = false ∧ W.cell? ⟨g6, 2, none⟩ = some (.int .u8 u) ∧ W.frozen? ⟨g6, 2, none⟩ = false ∧ W.cell? ⟨g6, 3, none⟩ = some (.int .u8 255) ∧ W.frozen? ⟨g6, 3, none⟩ = false ∧ Below wr.heap.size wr W ∧ wr.heap.size ≤ W.heap.size) 6 32 [.val (.int .i64 11), .val (.agg #[.int .u8 r, .int .u8 g, .int .u8 b, .int .u8 255]), .val (.agg #[.int .u8 r, .int .u8 g, .int .u8 b, .int .u8 255]), .call 23 #[.int .i64 11, .agg #[.int .u8 r, .int .u8 g, .int .u8 b, .int .u8 255], .agg #[.int .u8 r, .int .u8 g, .int .u8 b, .int .u8 255]] (.agg #[.int .u8 r, .int .u8 g, .int .u8 b, .int .u8 255]), .val (.agg #[.int .u8 r, .int .u8 g, .int .u8 b, .int .u8 255]), .val (.bool false)] (by kernel_rfl) (by kernel_rfl) rfl (by kernel_rfl) (by rintro w1 w2 ⟨h0, h1, h2, h3, h4, h5, h6, h7, h8, h9, h10, h11, h12, h13, h14, h15⟩ hb; exact ⟨bcs hb h0, bfs hb h0 h1, bcs hb h2, bfs hb h2 h3, bcs hb h4, bfs hb h4 h5, bcs hb h6, bfs hb h6 h7, bcs hb h8, bfs hb h8 h9, bcs hb h10, bfs hb h10 h11, bcs hb h12, bfs hb h12 h13, bcs hb h14, bfs hb h14 h15⟩) ⟨bcs (by repeat (first | with_reducible exact Below.refl _ _ | fail | with_reducible apply below_drewN | with_reducible apply Below.drew | (with_reducible refine Below.alloc ?_ (by first | (simp; done) | (simp; omega) | omega) _) | (with_reducible refine Below.setCell ?_ (by first | (simp; done) | (simp; omega) | omega) _))) kx0, bfs (by repeat (first | with_reducible exact Below.refl _ _ | fail | with_reducible apply below_drewN | with_reducible apply Below.drew | (with_reducible refine Below.alloc ?_ (by first | (simp; done) | (simp; omega) | omega) _) | (with_reducible refine Below.setCell ?_ (by first | (simp; done) | (simp; omega) | omega) _))) kx0 gx0, bcs (by repeat (first | with_reducible exact Below.refl _ _ | fail | with_reducible apply below_drewN | with_reducible apply Below.drew | (with_reducible refine Below.alloc ?_ (by first | (simp; done) | (simp; omega) | omega) _) | (with_reducible refine Below.setCell ?_ (by first | (simp; done) | (simp; omega) | omega) _))) kx1, bfs (by repeat (first | with_reducible exact Below.refl _ _ | fail | with_reducible apply below_drewN | with_reducible apply Below.drew | (with_reducible refine Below.alloc ?_ (by first | (simp; done) | (simp; omega) | omega) _) | (with_reducible refine Below.setCell ?_ (by first | (simp; done) | (simp; omega) | omega) _))) kx1 gx1, bcs (by repeat (first | with_reducible exact Below.refl _ _ | fail | with_reducible apply below_drewN | with_reducible apply Below.drew | (with_reducible refine Below.alloc ?_ (by first | (simp; done) | (simp; omega) | omega) _) | (with_reducible refine Below.setCell ?_ (by first | (simp; done) | (simp; omega) | omega) _))) kx2, bfs (by repeat (first | with_reducible exact Below.refl _ _ | fail | with_reducible apply below_drewN | with_reducible apply Below.drew | (with_reducible refine Below.alloc ?_ (by first | (simp; done) | (simp; omega) | omega) _) | (with_reducible refine Below.setCell ?_ (by first | (simp; done) | (simp; omega) | omega) _))) kx2 gx2, bcs (by repeat (first | with_reducible exact Below.refl _ _ | fail | with_reducible apply below_drewN | with_reducible apply Below.drew | (with_reducible refine Below.alloc ?_ (by first | (simp; done) | (simp; omega) | omega) _) | (with_reducible refine Below.setCell ?_ (by first | (simp; done) | (simp; omega) | omega) _))) kx3, bfs (by repeat (first | with_reducible exact Below.refl _ _ | fail | with_reducible apply below_drewN | with_reducible apply Below.drew | (with_reducible refine Below.alloc ?_ (by first | (simp; done) | (simp; omega) | omega) _) | (with_reducible refine Below.setCell ?_ (by first | (simp; done) | (simp; omega) | omega) _))) kx3 gx3, bcs (by repeat (first | with_reducible exact Below.refl _ _ | fail | with_reducible apply below_drewN | with_reducible apply Below.drew | (with_reducible refine Below.alloc ?_ (by first | (simp; done) | (simp; omega) | omega) _) | (with_reducible refine Below.setCell ?_ (by first | (simp; done) | (simp; omega) | omega) _))) ky0, bfs (by repeat (first | with_reducible exact Below.refl _ _ | fail | with_reducible apply below_drewN | with_reducible apply Below.drew | (with_reducible refine Below.alloc ?_ (by first | (simp; done) | (simp; omega) | omega) _) | (with_reducible refine Below.setCell ?_ (by first | (simp; done) | (simp; omega) | omega) _))) ky0 gy0, bcs (by repeat (first | with_reducible exact Below.refl _ _ | fail | with_reducible apply below_drewN | with_reducible apply Below.drew | (with_reducible refine Below.alloc ?_ (by first | (simp; done) | (simp; omega) | omega) _) | (with_reducible refine Below.setCell ?_ (by first | (simp; done) | (simp; omega) | omega) _))) ky1, bfs (by repeat (first | with_reducible exact Below.refl _ _ | fail | with_reducible apply below_drewN | with_reducible apply Below.drew | (with_reducible refine Below.alloc ?_ (by first | (simp; done) | (simp; omega) | omega) _) | (with_reducible refine Below.setCell ?_ (by first | (simp; done) | (simp; omega) | omega) _))) ky1 gy1, bcs (by repeat (first | with_reducible exact Below.refl _ _ | fail | with_reducible apply below_drewN | with_reducible apply Below.drew | (with_reducible refine Below.alloc ?_ (by first | (simp; done) | (simp; omega) | omega) _) | (with_reducible refine Below.setCell ?_ (by first | (simp; done) | (simp; omega) | omega) _))) ky2, bfs (by repeat (first | with_reducible exact Below.refl _ _ | fail | with_reducible apply below_drewN | with_reducible apply Below.drew | (with_reducible refine Below.alloc ?_ (by first | (simp; done) | (simp; omega) | omega) _) | (with_reducible refine Below.setCell ?_ (by first | (simp; done) | (simp; omega) | omega) _))) ky2 gy2, bcs (by repeat (first | with_reducible exact Below.refl _ _ | fail | with_reducible apply below_drewN | with_reducible apply Below.drew | (with_reducible refine Below.alloc ?_ (by first | (simp; done) | (simp; omega) | omega) _) | (with_reducible refine Below.setCell ?_ (by first | (simp; done) | (simp; omega) | omega) _))) ky3, bfs (by repeat (first | with_reducible exact Below.refl _ _ | fail | with_reducible apply below_drewN | with_reducible apply Below.drew | (with_reducible refine Below.alloc ?_ (by first | (simp; done) | (simp; omega) | omega) _) | (with_reducible refine Below.setCell ?_ (by first | (simp; done) | (simp; omega) | omega) _))) ky3 gy3, by repeat (first | with_reducible exact Below.refl _ _ | fail | with_reducible apply below_drewN | with_reducible apply Below.drew | (with_reducible refine Below.alloc ?_ (by first | (simp; done) | (simp; omega) | omega) _) | (with_reducible refine Below.setCell ?_ (by first | (simp; done) | (simp; omega) | omega) _)), by first | with_reducible assumption | (simp; done) | (simp; omega)⟩ ?_ ?_
        · rintro W ⟨k1_g5_0, g1_g5_0, k1_g5_1, g1_g5_1, k1_g5_2, g1_g5_2, k1_g5_3, g1_g5_3, k1_g6_0, g1_g6_0, k1_g6_1, g1_g6_1, k1_g6_2, g1_g6_2, k1_g6_3, g1_g6_3, B1, z1⟩; exact ⟨k1_g5_0, g1_g5_0, k1_g5_1, g1_g5_1, k1_g5_2, g1_g5_2, k1_g5_3, g1_g5_3, k1_g6_0, g1_g6_0, k1_g6_1, g1_g6_1, k1_g6_2, g1_g6_2, k1_g6_3, g1_g6_3⟩
        rintro w1 ⟨k1_g5_0, g1_g5_0, k1_g5_1, g1_g5_1, k1_g5_2, g1_g5_2, k1_g5_3, g1_g5_3, k1_g6_0, g1_g6_0, k1_g6_1, g1_g6_1, k1_g6_2, g1_g6_2, k1_g6_3, g1_g6_3, B1, z1⟩ gg
        simp only [List.take_succ_cons, List.take_zero, List.drop_succ_cons, List.drop_zero, List.cons_append, List.nil_append, List.append_nil]
        refine obe_val (by rfl) ?_ ?_
        · clear k1_g5_0 g1_g5_0 k1_g5_1 g1_g5_1 k1_g5_2 g1_g5_2 k1_g5_3 g1_g5_3 k1_g6_0 g1_g6_0 k1_g6_1 g1_g6_1 k1_g6_2 g1_g6_2 k1_g6_3 g1_g6_3 B1 z1; intro f hf; have u7 : f 7 = (.int .i64 11) := (by rw [← hf]; rfl); clear hf; rintro w' ⟨h0, h1, h2, h3, h4, h5, h6, h7, h8, h9, h10, h11, h12, h13, h14, h15⟩; go_simp; try exact IntWalk.i64_in _ (by omega)
        refine obe_val (by rfl) ?_ ?_
        · clear k1_g5_0 g1_g5_0 k1_g5_1 g1_g5_1 k1_g5_2 g1_g5_2 k1_g5_3 g1_g5_3 k1_g6_0 g1_g6_0 k1_g6_1 g1_g6_1 k1_g6_2 g1_g6_2 k1_g6_3 g1_g6_3 B1 z1; intro f hf; have u5 : f 5 = (.pointer (some ⟨g5, 0, none⟩)) := (by rw [← hf]; rfl); clear hf; rintro w' ⟨h0, h1, h2, h3, h4, h5, h6, h7, h8, h9, h10, h11, h12, h13, h14, h15⟩; go_simp; try exact IntWalk.i64_in _ (by omega)
        refine obe_val (by rfl) ?_ ?_
        · clear k1_g5_0 g1_g5_0 k1_g5_1 g1_g5_1 k1_g5_2 g1_g5_2 k1_g5_3 g1_g5_3 k1_g6_0 g1_g6_0 k1_g6_1 g1_g6_1 k1_g6_2 g1_g6_2 k1_g6_3 g1_g6_3 B1 z1; intro f hf; have u5 : f 5 = (.pointer (some ⟨g5, 0, none⟩)) := (by rw [← hf]; rfl); clear hf; rintro w' ⟨h0, h1, h2, h3, h4, h5, h6, h7, h8, h9, h10, h11, h12, h13, h14, h15⟩; go_simp; try exact IntWalk.i64_in _ (by omega)
        refine obe_call (by rfl) ?_ ?_ ?_
        · clear k1_g5_0 g1_g5_0 k1_g5_1 g1_g5_1 k1_g5_2 g1_g5_2 k1_g5_3 g1_g5_3 k1_g6_0 g1_g6_0 k1_g6_1 g1_g6_1 k1_g6_2 g1_g6_2 k1_g6_3 g1_g6_3 B1 z1; intro f hf; have u16 : f 16 = (.int .i64 11) := (by rw [← hf]; rfl); have u17 : f 17 = (.agg #[.int .u8 r, .int .u8 g, .int .u8 b, .int .u8 255]) := (by rw [← hf]; rfl); have u18 : f 18 = (.agg #[.int .u8 r, .int .u8 g, .int .u8 b, .int .u8 255]) := (by rw [← hf]; rfl); clear hf; intro w' _; simp only [execOp, resolve, invoke, rhoF_tmp, rhoF_func, rhoF_const, u16, u17, u18, List.map_toArray, List.map_cons, List.map_nil]; go_simp
        · clear k1_g5_0 g1_g5_0 k1_g5_1 g1_g5_1 k1_g5_2 g1_g5_2 k1_g5_3 g1_g5_3 k1_g6_0 g1_g6_0 k1_g6_1 g1_g6_1 k1_g6_2 g1_g6_2 k1_g6_3 g1_g6_3 B1 z1; rintro w' ⟨h0, h1, h2, h3, h4, h5, h6, h7, h8, h9, h10, h11, h12, h13, h14, h15⟩; exact cse11 _
        refine obe_val (by rfl) ?_ ?_
        · clear k1_g5_0 g1_g5_0 k1_g5_1 g1_g5_1 k1_g5_2 g1_g5_2 k1_g5_3 g1_g5_3 k1_g6_0 g1_g6_0 k1_g6_1 g1_g6_1 k1_g6_2 g1_g6_2 k1_g6_3 g1_g6_3 B1 z1; intro f hf; have u5 : f 5 = (.pointer (some ⟨g5, 0, none⟩)) := (by rw [← hf]; rfl); clear hf; rintro w' ⟨h0, h1, h2, h3, h4, h5, h6, h7, h8, h9, h10, h11, h12, h13, h14, h15⟩; go_simp; try exact IntWalk.i64_in _ (by omega)
        refine obe_val (by rfl) ?_ ?_
        · clear k1_g5_0 g1_g5_0 k1_g5_1 g1_g5_1 k1_g5_2 g1_g5_2 k1_g5_3 g1_g5_3 k1_g6_0 g1_g6_0 k1_g6_1 g1_g6_1 k1_g6_2 g1_g6_2 k1_g6_3 g1_g6_3 B1 z1; intro f hf; have u19 : f 19 = (.agg #[.int .u8 r, .int .u8 g, .int .u8 b, .int .u8 255]) := (by rw [← hf]; rfl); have u20 : f 20 = (.agg #[.int .u8 r, .int .u8 g, .int .u8 b, .int .u8 255]) := (by rw [← hf]; rfl); clear hf; rintro w' ⟨h0, h1, h2, h3, h4, h5, h6, h7, h8, h9, h10, h11, h12, h13, h14, h15⟩; go_simp; try exact IntWalk.i64_in _ (by omega)
        refine obe_nil ?_
        rintro w2 ⟨h0, h1, h2, h3, h4, h5, h6, h7, h8, h9, h10, h11, h12, h13, h14, h15⟩ hb2 hF
        (try simp only [List.nil_append, List.append_nil, List.cons_append] at hF)
        simp only [puts, putD, Act.put, List.setIfInBounds_toArray, List.set_cons_zero, List.set_cons_succ]
        clear hF
        have k2_g5_0 := bcs hb2 k1_g5_0
        have g2_g5_0 := bfs hb2 k1_g5_0 g1_g5_0
        have k2_g5_1 := bcs hb2 k1_g5_1
        have g2_g5_1 := bfs hb2 k1_g5_1 g1_g5_1
        have k2_g5_2 := bcs hb2 k1_g5_2
        have g2_g5_2 := bfs hb2 k1_g5_2 g1_g5_2
        have k2_g5_3 := bcs hb2 k1_g5_3
        have g2_g5_3 := bfs hb2 k1_g5_3 g1_g5_3
        have k2_g6_0 := bcs hb2 k1_g6_0
        have g2_g6_0 := bfs hb2 k1_g6_0 g1_g6_0
        have k2_g6_1 := bcs hb2 k1_g6_1
        have g2_g6_1 := bfs hb2 k1_g6_1 g1_g6_1
        have k2_g6_2 := bcs hb2 k1_g6_2
        have g2_g6_2 := bfs hb2 k1_g6_2 g1_g6_2
        have k2_g6_3 := bcs hb2 k1_g6_3
        have g2_g6_3 := bfs hb2 k1_g6_3 g1_g6_3
        clear h0 h1 h2 h3 h4 h5 h6 h7 h8 h9 h10 h11 h12 h13 h14 h15
        have B2 := bel_step B1 hb2
        have z2 := Nat.le_trans z1 hb2.size
        clear hb2
        (try clear B1)
        (try clear z1)
        (try clear k1_g5_0)
        (try clear g1_g5_0)
        (try clear k1_g5_1)
        (try clear g1_g5_1)
        (try clear k1_g5_2)
        (try clear g1_g5_2)
        (try clear k1_g5_3)
        (try clear g1_g5_3)
        (try clear k1_g6_0)
        (try clear g1_g6_0)
        (try clear k1_g6_1)
        (try clear g1_g6_1)
        (try clear k1_g6_2)
        (try clear g1_g6_2)
        (try clear k1_g6_3)
        (try clear g1_g6_3)
        (try clear q1_g5)
        (try clear x1_g5)
        (try clear y1_g5)
        (try clear q1_g6)
        (try clear x1_g6)
        (try clear y1_g6)
        have q2_g5 : g5 < w2.heap.size := qlt k2_g5_0
        have x2_g5 : ¬ g5 = w2.heap.size := qne k2_g5_0
        have y2_g5 : ¬ w2.heap.size = g5 := fun h => qne k2_g5_0 h.symm
        have q2_g6 : g6 < w2.heap.size := qlt k2_g6_0
        have x2_g6 : ¬ g6 = w2.heap.size := qne k2_g6_0
        have y2_g6 : ¬ w2.heap.size = g6 := fun h => qne k2_g6_0 h.symm
        unfold wpList
        go_wp2
        go_roundw
        case rel => exact ⟨12, rfl, by omega, by first | with_reducible assumption | go_simp, by first | with_reducible assumption | go_simp, by first | with_reducible assumption | go_simp, by first | with_reducible assumption | go_simp, by first | with_reducible assumption | go_simp, by first | with_reducible assumption | go_simp, by first | with_reducible assumption | go_simp, by first | with_reducible assumption | go_simp, by first | with_reducible assumption | go_simp, by first | with_reducible assumption | go_simp, by first | with_reducible assumption | go_simp, by first | with_reducible assumption | go_simp, by first | with_reducible assumption | go_simp, by first | with_reducible assumption | go_simp, by first | with_reducible assumption | go_simp, by first | with_reducible assumption | go_simp, by repeat (first | with_reducible exact Below.refl _ _ | with_reducible exact bel_step hB B2 | with_reducible apply below_drewN | with_reducible apply Below.drew | (with_reducible refine Below.alloc ?_ (by first | (simp; done) | (simp; omega) | omega) _) | (with_reducible refine Below.setCell ?_ (by first | (simp; done) | (simp; omega) | omega) _))⟩
        case measure => simp [intOf]
      · skip
        have hsz := hB.size
        go_wp2
        refine wp_region_env (fun w' => w'.cell? ⟨g5, 0, none⟩ = some (.int .u8 r) ∧ w'.frozen? ⟨g5, 0, none⟩ = false ∧ w'.cell? ⟨g5, 1, none⟩ = some (.int .u8 g) ∧ w'.frozen? ⟨g5, 1, none⟩ = false ∧ w'.cell? ⟨g5, 2, none⟩ = some (.int .u8 b) ∧ w'.frozen? ⟨g5, 2, none⟩ = false ∧ w'.cell? ⟨g5, 3, none⟩ = some (.int .u8 255) ∧ w'.frozen? ⟨g5, 3, none⟩ = false ∧ w'.cell? ⟨g6, 0, none⟩ = some (.int .u8 s) ∧ w'.frozen? ⟨g6, 0, none⟩ = false ∧ w'.cell? ⟨g6, 1, none⟩ = some (.int .u8 t) ∧ w'.frozen? ⟨g6, 1, none⟩ = false ∧ w'.cell? ⟨g6, 2, none⟩ = some (.int .u8 u) ∧ w'.frozen? ⟨g6, 2, none⟩ = false ∧ w'.cell? ⟨g6, 3, none⟩ = some (.int .u8 255) ∧ w'.frozen? ⟨g6, 3, none⟩ = false) (fun W => W.cell? ⟨g5, 0, none⟩ = some (.int .u8 r) ∧ W.frozen? ⟨g5, 0, none⟩ = false ∧ W.cell? ⟨g5, 1, none⟩ = some (.int .u8 g) ∧ W.frozen? ⟨g5, 1, none⟩ = false ∧ W.cell? ⟨g5, 2, none⟩ = some (.int .u8 b) ∧ W.frozen? ⟨g5, 2, none⟩ = false ∧ W.cell? ⟨g5, 3, none⟩ = some (.int .u8 255) ∧ W.frozen? ⟨g5, 3, none⟩ = false ∧ W.cell? ⟨g6, 0, none⟩ = some (.int .u8 s) ∧ W.frozen? ⟨g6, 0, none⟩ = false ∧ W.cell? ⟨g6, 1, none⟩ = some (.int .u8 t) ∧ W.frozen? ⟨g6, 1, none⟩ = false ∧ W.cell? ⟨g6, 2, none⟩ = some (.int .u8 u) ∧ W.frozen? ⟨g6, 2, none⟩ = false ∧ W.cell? ⟨g6, 3, none⟩ = some (.int .u8 255) ∧ W.frozen? ⟨g6, 3, none⟩ = false ∧ Below wr.heap.size wr W ∧ wr.heap.size ≤ W.heap.size) 6 32 [.val (.int .i64 12), .val (.agg #[.int .u8 r, .int .u8 g, .int .u8 b, .int .u8 255]), .val (.agg #[.int .u8 r, .int .u8 g, .int .u8 b, .int .u8 255]), .call 23 #[.int .i64 12, .agg #[.int .u8 r, .int .u8 g, .int .u8 b, .int .u8 255], .agg #[.int .u8 r, .int .u8 g, .int .u8 b, .int .u8 255]] (.agg #[.int .u8 r, .int .u8 g, .int .u8 b, .int .u8 255]), .val (.agg #[.int .u8 r, .int .u8 g, .int .u8 b, .int .u8 255]), .val (.bool false)] (by kernel_rfl) (by kernel_rfl) rfl (by kernel_rfl) (by rintro w1 w2 ⟨h0, h1, h2, h3, h4, h5, h6, h7, h8, h9, h10, h11, h12, h13, h14, h15⟩ hb; exact ⟨bcs hb h0, bfs hb h0 h1, bcs hb h2, bfs hb h2 h3, bcs hb h4, bfs hb h4 h5, bcs hb h6, bfs hb h6 h7, bcs hb h8, bfs hb h8 h9, bcs hb h10, bfs hb h10 h11, bcs hb h12, bfs hb h12 h13, bcs hb h14, bfs hb h14 h15⟩) ⟨bcs (by repeat (first | with_reducible exact Below.refl _ _ | fail | with_reducible apply below_drewN | with_reducible apply Below.drew | (with_reducible refine Below.alloc ?_ (by first | (simp; done) | (simp; omega) | omega) _) | (with_reducible refine Below.setCell ?_ (by first | (simp; done) | (simp; omega) | omega) _))) kx0, bfs (by repeat (first | with_reducible exact Below.refl _ _ | fail | with_reducible apply below_drewN | with_reducible apply Below.drew | (with_reducible refine Below.alloc ?_ (by first | (simp; done) | (simp; omega) | omega) _) | (with_reducible refine Below.setCell ?_ (by first | (simp; done) | (simp; omega) | omega) _))) kx0 gx0, bcs (by repeat (first | with_reducible exact Below.refl _ _ | fail | with_reducible apply below_drewN | with_reducible apply Below.drew | (with_reducible refine Below.alloc ?_ (by first | (simp; done) | (simp; omega) | omega) _) | (with_reducible refine Below.setCell ?_ (by first | (simp; done) | (simp; omega) | omega) _))) kx1, bfs (by repeat (first | with_reducible exact Below.refl _ _ | fail | with_reducible apply below_drewN | with_reducible apply Below.drew | (with_reducible refine Below.alloc ?_ (by first | (simp; done) | (simp; omega) | omega) _) | (with_reducible refine Below.setCell ?_ (by first | (simp; done) | (simp; omega) | omega) _))) kx1 gx1, bcs (by repeat (first | with_reducible exact Below.refl _ _ | fail | with_reducible apply below_drewN | with_reducible apply Below.drew | (with_reducible refine Below.alloc ?_ (by first | (simp; done) | (simp; omega) | omega) _) | (with_reducible refine Below.setCell ?_ (by first | (simp; done) | (simp; omega) | omega) _))) kx2, bfs (by repeat (first | with_reducible exact Below.refl _ _ | fail | with_reducible apply below_drewN | with_reducible apply Below.drew | (with_reducible refine Below.alloc ?_ (by first | (simp; done) | (simp; omega) | omega) _) | (with_reducible refine Below.setCell ?_ (by first | (simp; done) | (simp; omega) | omega) _))) kx2 gx2, bcs (by repeat (first | with_reducible exact Below.refl _ _ | fail | with_reducible apply below_drewN | with_reducible apply Below.drew | (with_reducible refine Below.alloc ?_ (by first | (simp; done) | (simp; omega) | omega) _) | (with_reducible refine Below.setCell ?_ (by first | (simp; done) | (simp; omega) | omega) _))) kx3, bfs (by repeat (first | with_reducible exact Below.refl _ _ | fail | with_reducible apply below_drewN | with_reducible apply Below.drew | (with_reducible refine Below.alloc ?_ (by first | (simp; done) | (simp; omega) | omega) _) | (with_reducible refine Below.setCell ?_ (by first | (simp; done) | (simp; omega) | omega) _))) kx3 gx3, bcs (by repeat (first | with_reducible exact Below.refl _ _ | fail | with_reducible apply below_drewN | with_reducible apply Below.drew | (with_reducible refine Below.alloc ?_ (by first | (simp; done) | (simp; omega) | omega) _) | (with_reducible refine Below.setCell ?_ (by first | (simp; done) | (simp; omega) | omega) _))) ky0, bfs (by repeat (first | with_reducible exact Below.refl _ _ | fail | with_reducible apply below_drewN | with_reducible apply Below.drew | (with_reducible refine Below.alloc ?_ (by first | (simp; done) | (simp; omega) | omega) _) | (with_reducible refine Below.setCell ?_ (by first | (simp; done) | (simp; omega) | omega) _))) ky0 gy0, bcs (by repeat (first | with_reducible exact Below.refl _ _ | fail | with_reducible apply below_drewN | with_reducible apply Below.drew | (with_reducible refine Below.alloc ?_ (by first | (simp; done) | (simp; omega) | omega) _) | (with_reducible refine Below.setCell ?_ (by first | (simp; done) | (simp; omega) | omega) _))) ky1, bfs (by repeat (first | with_reducible exact Below.refl _ _ | fail | with_reducible apply below_drewN | with_reducible apply Below.drew | (with_reducible refine Below.alloc ?_ (by first | (simp; done) | (simp; omega) | omega) _) | (with_reducible refine Below.setCell ?_ (by first | (simp; done) | (simp; omega) | omega) _))) ky1 gy1, bcs (by repeat (first | with_reducible exact Below.refl _ _ | fail | with_reducible apply below_drewN | with_reducible apply Below.drew | (with_reducible refine Below.alloc ?_ (by first | (simp; done) | (simp; omega) | omega) _) | (with_reducible refine Below.setCell ?_ (by first | (simp; done) | (simp; omega) | omega) _))) ky2, bfs (by repeat (first | with_reducible exact Below.refl _ _ | fail | with_reducible apply below_drewN | with_reducible apply Below.drew | (with_reducible refine Below.alloc ?_ (by first | (simp; done) | (simp; omega) | omega) _) | (with_reducible refine Below.setCell ?_ (by first | (simp; done) | (simp; omega) | omega) _))) ky2 gy2, bcs (by repeat (first | with_reducible exact Below.refl _ _ | fail | with_reducible apply below_drewN | with_reducible apply Below.drew | (with_reducible refine Below.alloc ?_ (by first | (simp; done) | (simp; omega) | omega) _) | (with_reducible refine Below.setCell ?_ (by first | (simp; done) | (simp; omega) | omega) _))) ky3, bfs (by repeat (first | with_reducible exact Below.refl _ _ | fail | with_reducible apply below_drewN | with_reducible apply Below.drew | (with_reducible refine Below.alloc ?_ (by first | (simp; done) | (simp; omega) | omega) _) | (with_reducible refine Below.setCell ?_ (by first | (simp; done) | (simp; omega) | omega) _))) ky3 gy3, by repeat (first | with_reducible exact Below.refl _ _ | fail | with_reducible apply below_drewN | with_reducible apply Below.drew | (with_reducible refine Below.alloc ?_ (by first | (simp; done) | (simp; omega) | omega) _) | (with_reducible refine Below.setCell ?_ (by first | (simp; done) | (simp; omega) | omega) _)), by first | with_reducible assumption | (simp; done) | (simp; omega)⟩ ?_ ?_
        · rintro W ⟨k1_g5_0, g1_g5_0, k1_g5_1, g1_g5_1, k1_g5_2, g1_g5_2, k1_g5_3, g1_g5_3, k1_g6_0, g1_g6_0, k1_g6_1, g1_g6_1, k1_g6_2, g1_g6_2, k1_g6_3, g1_g6_3, B1, z1⟩; exact ⟨k1_g5_0, g1_g5_0, k1_g5_1, g1_g5_1, k1_g5_2, g1_g5_2, k1_g5_3, g1_g5_3, k1_g6_0, g1_g6_0, k1_g6_1, g1_g6_1, k1_g6_2, g1_g6_2, k1_g6_3, g1_g6_3⟩
        rintro w1 ⟨k1_g5_0, g1_g5_0, k1_g5_1, g1_g5_1, k1_g5_2, g1_g5_2, k1_g5_3, g1_g5_3, k1_g6_0, g1_g6_0, k1_g6_1, g1_g6_1, k1_g6_2, g1_g6_2, k1_g6_3, g1_g6_3, B1, z1⟩ gg
        simp only [List.take_succ_cons, List.take_zero, List.drop_succ_cons, List.drop_zero, List.cons_append, List.nil_append, List.append_nil]
        refine obe_val (by rfl) ?_ ?_
        · clear k1_g5_0 g1_g5_0 k1_g5_1 g1_g5_1 k1_g5_2 g1_g5_2 k1_g5_3 g1_g5_3 k1_g6_0 g1_g6_0 k1_g6_1 g1_g6_1 k1_g6_2 g1_g6_2 k1_g6_3 g1_g6_3 B1 z1; intro f hf; have u7 : f 7 = (.int .i64 12) := (by rw [← hf]; rfl); clear hf; rintro w' ⟨h0, h1, h2, h3, h4, h5, h6, h7, h8, h9, h10, h11, h12, h13, h14, h15⟩; go_simp; try exact IntWalk.i64_in _ (by omega)
        refine obe_val (by rfl) ?_ ?_
        · clear k1_g5_0 g1_g5_0 k1_g5_1 g1_g5_1 k1_g5_2 g1_g5_2 k1_g5_3 g1_g5_3 k1_g6_0 g1_g6_0 k1_g6_1 g1_g6_1 k1_g6_2 g1_g6_2 k1_g6_3 g1_g6_3 B1 z1; intro f hf; have u5 : f 5 = (.pointer (some ⟨g5, 0, none⟩)) := (by rw [← hf]; rfl); clear hf; rintro w' ⟨h0, h1, h2, h3, h4, h5, h6, h7, h8, h9, h10, h11, h12, h13, h14, h15⟩; go_simp; try exact IntWalk.i64_in _ (by omega)
        refine obe_val (by rfl) ?_ ?_
        · clear k1_g5_0 g1_g5_0 k1_g5_1 g1_g5_1 k1_g5_2 g1_g5_2 k1_g5_3 g1_g5_3 k1_g6_0 g1_g6_0 k1_g6_1 g1_g6_1 k1_g6_2 g1_g6_2 k1_g6_3 g1_g6_3 B1 z1; intro f hf; have u5 : f 5 = (.pointer (some ⟨g5, 0, none⟩)) := (by rw [← hf]; rfl); clear hf; rintro w' ⟨h0, h1, h2, h3, h4, h5, h6, h7, h8, h9, h10, h11, h12, h13, h14, h15⟩; go_simp; try exact IntWalk.i64_in _ (by omega)
        refine obe_call (by rfl) ?_ ?_ ?_
        · clear k1_g5_0 g1_g5_0 k1_g5_1 g1_g5_1 k1_g5_2 g1_g5_2 k1_g5_3 g1_g5_3 k1_g6_0 g1_g6_0 k1_g6_1 g1_g6_1 k1_g6_2 g1_g6_2 k1_g6_3 g1_g6_3 B1 z1; intro f hf; have u16 : f 16 = (.int .i64 12) := (by rw [← hf]; rfl); have u17 : f 17 = (.agg #[.int .u8 r, .int .u8 g, .int .u8 b, .int .u8 255]) := (by rw [← hf]; rfl); have u18 : f 18 = (.agg #[.int .u8 r, .int .u8 g, .int .u8 b, .int .u8 255]) := (by rw [← hf]; rfl); clear hf; intro w' _; simp only [execOp, resolve, invoke, rhoF_tmp, rhoF_func, rhoF_const, u16, u17, u18, List.map_toArray, List.map_cons, List.map_nil]; go_simp
        · clear k1_g5_0 g1_g5_0 k1_g5_1 g1_g5_1 k1_g5_2 g1_g5_2 k1_g5_3 g1_g5_3 k1_g6_0 g1_g6_0 k1_g6_1 g1_g6_1 k1_g6_2 g1_g6_2 k1_g6_3 g1_g6_3 B1 z1; rintro w' ⟨h0, h1, h2, h3, h4, h5, h6, h7, h8, h9, h10, h11, h12, h13, h14, h15⟩; exact cse12 _
        refine obe_val (by rfl) ?_ ?_
        · clear k1_g5_0 g1_g5_0 k1_g5_1 g1_g5_1 k1_g5_2 g1_g5_2 k1_g5_3 g1_g5_3 k1_g6_0 g1_g6_0 k1_g6_1 g1_g6_1 k1_g6_2 g1_g6_2 k1_g6_3 g1_g6_3 B1 z1; intro f hf; have u5 : f 5 = (.pointer (some ⟨g5, 0, none⟩)) := (by rw [← hf]; rfl); clear hf; rintro w' ⟨h0, h1, h2, h3, h4, h5, h6, h7, h8, h9, h10, h11, h12, h13, h14, h15⟩; go_simp; try exact IntWalk.i64_in _ (by omega)
        refine obe_val (by rfl) ?_ ?_
        · clear k1_g5_0 g1_g5_0 k1_g5_1 g1_g5_1 k1_g5_2 g1_g5_2 k1_g5_3 g1_g5_3 k1_g6_0 g1_g6_0 k1_g6_1 g1_g6_1 k1_g6_2 g1_g6_2 k1_g6_3 g1_g6_3 B1 z1; intro f hf; have u19 : f 19 = (.agg #[.int .u8 r, .int .u8 g, .int .u8 b, .int .u8 255]) := (by rw [← hf]; rfl); have u20 : f 20 = (.agg #[.int .u8 r, .int .u8 g, .int .u8 b, .int .u8 255]) := (by rw [← hf]; rfl); clear hf; rintro w' ⟨h0, h1, h2, h3, h4, h5, h6, h7, h8, h9, h10, h11, h12, h13, h14, h15⟩; go_simp; try exact IntWalk.i64_in _ (by omega)
        refine obe_nil ?_
        rintro w2 ⟨h0, h1, h2, h3, h4, h5, h6, h7, h8, h9, h10, h11, h12, h13, h14, h15⟩ hb2 hF
        (try simp only [List.nil_append, List.append_nil, List.cons_append] at hF)
        simp only [puts, putD, Act.put, List.setIfInBounds_toArray, List.set_cons_zero, List.set_cons_succ]
        clear hF
        have k2_g5_0 := bcs hb2 k1_g5_0
        have g2_g5_0 := bfs hb2 k1_g5_0 g1_g5_0
        have k2_g5_1 := bcs hb2 k1_g5_1
        have g2_g5_1 := bfs hb2 k1_g5_1 g1_g5_1
        have k2_g5_2 := bcs hb2 k1_g5_2
        have g2_g5_2 := bfs hb2 k1_g5_2 g1_g5_2
        have k2_g5_3 := bcs hb2 k1_g5_3
        have g2_g5_3 := bfs hb2 k1_g5_3 g1_g5_3
        have k2_g6_0 := bcs hb2 k1_g6_0
        have g2_g6_0 := bfs hb2 k1_g6_0 g1_g6_0
        have k2_g6_1 := bcs hb2 k1_g6_1
        have g2_g6_1 := bfs hb2 k1_g6_1 g1_g6_1
        have k2_g6_2 := bcs hb2 k1_g6_2
        have g2_g6_2 := bfs hb2 k1_g6_2 g1_g6_2
        have k2_g6_3 := bcs hb2 k1_g6_3
        have g2_g6_3 := bfs hb2 k1_g6_3 g1_g6_3
        clear h0 h1 h2 h3 h4 h5 h6 h7 h8 h9 h10 h11 h12 h13 h14 h15
        have B2 := bel_step B1 hb2
        have z2 := Nat.le_trans z1 hb2.size
        clear hb2
        (try clear B1)
        (try clear z1)
        (try clear k1_g5_0)
        (try clear g1_g5_0)
        (try clear k1_g5_1)
        (try clear g1_g5_1)
        (try clear k1_g5_2)
        (try clear g1_g5_2)
        (try clear k1_g5_3)
        (try clear g1_g5_3)
        (try clear k1_g6_0)
        (try clear g1_g6_0)
        (try clear k1_g6_1)
        (try clear g1_g6_1)
        (try clear k1_g6_2)
        (try clear g1_g6_2)
        (try clear k1_g6_3)
        (try clear g1_g6_3)
        (try clear q1_g5)
        (try clear x1_g5)
        (try clear y1_g5)
        (try clear q1_g6)
        (try clear x1_g6)
        (try clear y1_g6)
        have q2_g5 : g5 < w2.heap.size := qlt k2_g5_0
        have x2_g5 : ¬ g5 = w2.heap.size := qne k2_g5_0
        have y2_g5 : ¬ w2.heap.size = g5 := fun h => qne k2_g5_0 h.symm
        have q2_g6 : g6 < w2.heap.size := qlt k2_g6_0
        have x2_g6 : ¬ g6 = w2.heap.size := qne k2_g6_0
        have y2_g6 : ¬ w2.heap.size = g6 := fun h => qne k2_g6_0 h.symm
        unfold wpList
        go_wp2
        go_roundw
        case rel => exact ⟨13, rfl, by omega, by first | with_reducible assumption | go_simp, by first | with_reducible assumption | go_simp, by first | with_reducible assumption | go_simp, by first | with_reducible assumption | go_simp, by first | with_reducible assumption | go_simp, by first | with_reducible assumption | go_simp, by first | with_reducible assumption | go_simp, by first | with_reducible assumption | go_simp, by first | with_reducible assumption | go_simp, by first | with_reducible assumption | go_simp, by first | with_reducible assumption | go_simp, by first | with_reducible assumption | go_simp, by first | with_reducible assumption | go_simp, by first | with_reducible assumption | go_simp, by first | with_reducible assumption | go_simp, by first | with_reducible assumption | go_simp, by repeat (first | with_reducible exact Below.refl _ _ | with_reducible exact bel_step hB B2 | with_reducible apply below_drewN | with_reducible apply Below.drew | (with_reducible refine Below.alloc ?_ (by first | (simp; done) | (simp; omega) | omega) _) | (with_reducible refine Below.setCell ?_ (by first | (simp; done) | (simp; omega) | omega) _))⟩
        case measure => simp [intOf]
      · skip
        have hsz := hB.size
        go_wp2
        refine wp_region_env (fun w' => w'.cell? ⟨g5, 0, none⟩ = some (.int .u8 r) ∧ w'.frozen? ⟨g5, 0, none⟩ = false ∧ w'.cell? ⟨g5, 1, none⟩ = some (.int .u8 g) ∧ w'.frozen? ⟨g5, 1, none⟩ = false ∧ w'.cell? ⟨g5, 2, none⟩ = some (.int .u8 b) ∧ w'.frozen? ⟨g5, 2, none⟩ = false ∧ w'.cell? ⟨g5, 3, none⟩ = some (.int .u8 255) ∧ w'.frozen? ⟨g5, 3, none⟩ = false ∧ w'.cell? ⟨g6, 0, none⟩ = some (.int .u8 s) ∧ w'.frozen? ⟨g6, 0, none⟩ = false ∧ w'.cell? ⟨g6, 1, none⟩ = some (.int .u8 t) ∧ w'.frozen? ⟨g6, 1, none⟩ = false ∧ w'.cell? ⟨g6, 2, none⟩ = some (.int .u8 u) ∧ w'.frozen? ⟨g6, 2, none⟩ = false ∧ w'.cell? ⟨g6, 3, none⟩ = some (.int .u8 255) ∧ w'.frozen? ⟨g6, 3, none⟩ = false) (fun W => W.cell? ⟨g5, 0, none⟩ = some (.int .u8 r) ∧ W.frozen? ⟨g5, 0, none⟩ = false ∧ W.cell? ⟨g5, 1, none⟩ = some (.int .u8 g) ∧ W.frozen? ⟨g5, 1, none⟩ = false ∧ W.cell? ⟨g5, 2, none⟩ = some (.int .u8 b) ∧ W.frozen? ⟨g5, 2, none⟩ = false ∧ W.cell? ⟨g5, 3, none⟩ = some (.int .u8 255) ∧ W.frozen? ⟨g5, 3, none⟩ = false ∧ W.cell? ⟨g6, 0, none⟩ = some (.int .u8 s) ∧ W.frozen? ⟨g6, 0, none⟩ = false ∧ W.cell? ⟨g6, 1, none⟩ = some (.int .u8 t) ∧ W.frozen? ⟨g6, 1, none⟩ = false ∧ W.cell? ⟨g6, 2, none⟩ = some (.int .u8 u) ∧ W.frozen? ⟨g6, 2, none⟩ = false ∧ W.cell? ⟨g6, 3, none⟩ = some (.int .u8 255) ∧ W.frozen? ⟨g6, 3, none⟩ = false ∧ Below wr.heap.size wr W ∧ wr.heap.size ≤ W.heap.size) 6 32 [.val (.int .i64 13), .val (.agg #[.int .u8 r, .int .u8 g, .int .u8 b, .int .u8 255]), .val (.agg #[.int .u8 r, .int .u8 g, .int .u8 b, .int .u8 255]), .call 23 #[.int .i64 13, .agg #[.int .u8 r, .int .u8 g, .int .u8 b, .int .u8 255], .agg #[.int .u8 r, .int .u8 g, .int .u8 b, .int .u8 255]] (.agg #[.int .u8 r, .int .u8 g, .int .u8 b, .int .u8 255]), .val (.agg #[.int .u8 r, .int .u8 g, .int .u8 b, .int .u8 255]), .val (.bool false)] (by kernel_rfl) (by kernel_rfl) rfl (by kernel_rfl) (by rintro w1 w2 ⟨h0, h1, h2, h3, h4, h5, h6, h7, h8, h9, h10, h11, h12, h13, h14, h15⟩ hb; exact ⟨bcs hb h0, bfs hb h0 h1, bcs hb h2, bfs hb h2 h3, bcs hb h4, bfs hb h4 h5, bcs hb h6, bfs hb h6 h7, bcs hb h8, bfs hb h8 h9, bcs hb h10, bfs hb h10 h11, bcs hb h12, bfs hb h12 h13, bcs hb h14, bfs hb h14 h15⟩) ⟨bcs (by repeat (first | with_reducible exact Below.refl _ _ | fail | with_reducible apply below_drewN | with_reducible apply Below.drew | (with_reducible refine Below.alloc ?_ (by first | (simp; done) | (simp; omega) | omega) _) | (with_reducible refine Below.setCell ?_ (by first | (simp; done) | (simp; omega) | omega) _))) kx0, bfs (by repeat (first | with_reducible exact Below.refl _ _ | fail | with_reducible apply below_drewN | with_reducible apply Below.drew | (with_reducible refine Below.alloc ?_ (by first | (simp; done) | (simp; omega) | omega) _) | (with_reducible refine Below.setCell ?_ (by first | (simp; done) | (simp; omega) | omega) _))) kx0 gx0, bcs (by repeat (first | with_reducible exact Below.refl _ _ | fail | with_reducible apply below_drewN | with_reducible apply Below.drew | (with_reducible refine Below.alloc ?_ (by first | (simp; done) | (simp; omega) | omega) _) | (with_reducible refine Below.setCell ?_ (by first | (simp; done) | (simp; omega) | omega) _))) kx1, bfs (by repeat (first | with_reducible exact Below.refl _ _ | fail | with_reducible apply below_drewN | with_reducible apply Below.drew | (with_reducible refine Below.alloc ?_ (by first | (simp; done) | (simp; omega) | omega) _) | (with_reducible refine Below.setCell ?_ (by first | (simp; done) | (simp; omega) | omega) _))) kx1 gx1, bcs (by repeat (first | with_reducible exact Below.refl _ _ | fail | with_reducible apply below_drewN | with_reducible apply Below.drew | (with_reducible refine Below.alloc ?_ (by first | (simp; done) | (simp; omega) | omega) _) | (with_reducible refine Below.setCell ?_ (by first | (simp; done) | (simp; omega) | omega) _))) kx2, bfs (by repeat (first | with_reducible exact Below.refl _ _ | fail | with_reducible apply below_drewN | with_reducible apply Below.drew | (with_reducible refine Below.alloc ?_ (by first | (simp; done) | (simp; omega) | omega) _) | (with_reducible refine Below.setCell ?_ (by first | (simp; done) | (simp; omega) | omega) _))) kx2 gx2, bcs (by repeat (first | with_reducible exact Below.refl _ _ | fail | with_reducible apply below_drewN | with_reducible apply Below.drew | (with_reducible refine Below.alloc ?_ (by first | (simp; done) | (simp; omega) | omega) _) | (with_reducible refine Below.setCell ?_ (by first | (simp; done) | (simp; omega) | omega) _))) kx3, bfs (by repeat (first | with_reducible exact Below.refl _ _ | fail | with_reducible apply below_drewN | with_reducible apply Below.drew | (with_reducible refine Below.alloc ?_ (by first | (simp; done) | (simp; omega) | omega) _) | (with_reducible refine Below.setCell ?_ (by first | (simp; done) | (simp; omega) | omega) _))) kx3 gx3, bcs (by repeat (first | with_reducible exact Below.refl _ _ | fail | with_reducible apply below_drewN | with_reducible apply Below.drew | (with_reducible refine Below.alloc ?_ (by first | (simp; done) | (simp; omega) | omega) _) | (with_reducible refine Below.setCell ?_ (by first | (simp; done) | (simp; omega) | omega) _))) ky0, bfs (by repeat (first | with_reducible exact Below.refl _ _ | fail | with_reducible apply below_drewN | with_reducible apply Below.drew | (with_reducible refine Below.alloc ?_ (by first | (simp; done) | (simp; omega) | omega) _) | (with_reducible refine Below.setCell ?_ (by first | (simp; done) | (simp; omega) | omega) _))) ky0 gy0, bcs (by repeat (first | with_reducible exact Below.refl _ _ | fail | with_reducible apply below_drewN | with_reducible apply Below.drew | (with_reducible refine Below.alloc ?_ (by first | (simp; done) | (simp; omega) | omega) _) | (with_reducible refine Below.setCell ?_ (by first | (simp; done) | (simp; omega) | omega) _))) ky1, bfs (by repeat (first | with_reducible exact Below.refl _ _ | fail | with_reducible apply below_drewN | with_reducible apply Below.drew | (with_reducible refine Below.alloc ?_ (by first | (simp; done) | (simp; omega) | omega) _) | (with_reducible refine Below.setCell ?_ (by first | (simp; done) | (simp; omega) | omega) _))) ky1 gy1, bcs (by repeat (first | with_reducible exact Below.refl _ _ | fail | with_reducible apply below_drewN | with_reducible apply Below.drew | (with_reducible refine Below.alloc ?_ (by first | (simp; done) | (simp; omega) | omega) _) | (with_reducible refine Below.setCell ?_ (by first | (simp; done) | (simp; omega) | omega) _))) ky2, bfs (by repeat (first | with_reducible exact Below.refl _ _ | fail | with_reducible apply below_drewN | with_reducible apply Below.drew | (with_reducible refine Below.alloc ?_ (by first | (simp; done) | (simp; omega) | omega) _) | (with_reducible refine Below.setCell ?_ (by first | (simp; done) | (simp; omega) | omega) _))) ky2 gy2, bcs (by repeat (first | with_reducible exact Below.refl _ _ | fail | with_reducible apply below_drewN | with_reducible apply Below.drew | (with_reducible refine Below.alloc ?_ (by first | (simp; done) | (simp; omega) | omega) _) | (with_reducible refine Below.setCell ?_ (by first | (simp; done) | (simp; omega) | omega) _))) ky3, bfs (by repeat (first | with_reducible exact Below.refl _ _ | fail | with_reducible apply below_drewN | with_reducible apply Below.drew | (with_reducible refine Below.alloc ?_ (by first | (simp; done) | (simp; omega) | omega) _) | (with_reducible refine Below.setCell ?_ (by first | (simp; done) | (simp; omega) | omega) _))) ky3 gy3, by repeat (first | with_reducible exact Below.refl _ _ | fail | with_reducible apply below_drewN | with_reducible apply Below.drew | (with_reducible refine Below.alloc ?_ (by first | (simp; done) | (simp; omega) | omega) _) | (with_reducible refine Below.setCell ?_ (by first | (simp; done) | (simp; omega) | omega) _)), by first | with_reducible assumption | (simp; done) | (simp; omega)⟩ ?_ ?_
        · rintro W ⟨k1_g5_0, g1_g5_0, k1_g5_1, g1_g5_1, k1_g5_2, g1_g5_2, k1_g5_3, g1_g5_3, k1_g6_0, g1_g6_0, k1_g6_1, g1_g6_1, k1_g6_2, g1_g6_2, k1_g6_3, g1_g6_3, B1, z1⟩; exact ⟨k1_g5_0, g1_g5_0, k1_g5_1, g1_g5_1, k1_g5_2, g1_g5_2, k1_g5_3, g1_g5_3, k1_g6_0, g1_g6_0, k1_g6_1, g1_g6_1, k1_g6_2, g1_g6_2, k1_g6_3, g1_g6_3⟩
        rintro w1 ⟨k1_g5_0, g1_g5_0, k1_g5_1, g1_g5_1, k1_g5_2, g1_g5_2, k1_g5_3, g1_g5_3, k1_g6_0, g1_g6_0, k1_g6_1, g1_g6_1, k1_g6_2, g1_g6_2, k1_g6_3, g1_g6_3, B1, z1⟩ gg
        simp only [List.take_succ_cons, List.take_zero, List.drop_succ_cons, List.drop_zero, List.cons_append, List.nil_append, List.append_nil]
        refine obe_val (by rfl) ?_ ?_
        · clear k1_g5_0 g1_g5_0 k1_g5_1 g1_g5_1 k1_g5_2 g1_g5_2 k1_g5_3 g1_g5_3 k1_g6_0 g1_g6_0 k1_g6_1 g1_g6_1 k1_g6_2 g1_g6_2 k1_g6_3 g1_g6_3 B1 z1; intro f hf; have u7 : f 7 = (.int .i64 13) := (by rw [← hf]; rfl); clear hf; rintro w' ⟨h0, h1, h2, h3, h4, h5, h6, h7, h8, h9, h10, h11, h12, h13, h14, h15⟩; go_simp; try exact IntWalk.i64_in _ (by omega)
        refine obe_val (by rfl) ?_ ?_
        · clear k1_g5_0 g1_g5_0 k1_g5_1 g1_g5_1 k1_g5_2 g1_g5_2 k1_g5_3 g1_g5_3 k1_g6_0 g1_g6_0 k1_g6_1 g1_g6_1 k1_g6_2 g1_g6_2 k1_g6_3 g1_g6_3 B1 z1; intro f hf; have u5 : f 5 = (.pointer (some ⟨g5, 0, none⟩)) := (by rw [← hf]; rfl); clear hf; rintro w' ⟨h0, h1, h2, h3, h4, h5, h6, h7, h8, h9, h10, h11, h12, h13, h14, h15⟩; go_simp; try exact IntWalk.i64_in _ (by omega)
        refine obe_val (by rfl) ?_ ?_
        · clear k1_g5_0 g1_g5_0 k1_g5_1 g1_g5_1 k1_g5_2 g1_g5_2 k1_g5_3 g1_g5_3 k1_g6_0 g1_g6_0 k1_g6_1 g1_g6_1 k1_g6_2 g1_g6_2 k1_g6_3 g1_g6_3 B1 z1; intro f hf; have u5 : f 5 = (.pointer (some ⟨g5, 0, none⟩)) := (by rw [← hf]; rfl); clear hf; rintro w' ⟨h0, h1, h2, h3, h4, h5, h6, h7, h8, h9, h10, h11, h12, h13, h14, h15⟩; go_simp; try exact IntWalk.i64_in _ (by omega)
        refine obe_call (by rfl) ?_ ?_ ?_
        · clear k1_g5_0 g1_g5_0 k1_g5_1 g1_g5_1 k1_g5_2 g1_g5_2 k1_g5_3 g1_g5_3 k1_g6_0 g1_g6_0 k1_g6_1 g1_g6_1 k1_g6_2 g1_g6_2 k1_g6_3 g1_g6_3 B1 z1; intro f hf; have u16 : f 16 = (.int .i64 13) := (by rw [← hf]; rfl); have u17 : f 17 = (.agg #[.int .u8 r, .int .u8 g, .int .u8 b, .int .u8 255]) := (by rw [← hf]; rfl); have u18 : f 18 = (.agg #[.int .u8 r, .int .u8 g, .int .u8 b, .int .u8 255]) := (by rw [← hf]; rfl); clear hf; intro w' _; simp only [execOp, resolve, invoke, rhoF_tmp, rhoF_func, rhoF_const, u16, u17, u18, List.map_toArray, List.map_cons, List.map_nil]; go_simp
        · clear k1_g5_0 g1_g5_0 k1_g5_1 g1_g5_1 k1_g5_2 g1_g5_2 k1_g5_3 g1_g5_3 k1_g6_0 g1_g6_0 k1_g6_1 g1_g6_1 k1_g6_2 g1_g6_2 k1_g6_3 g1_g6_3 B1 z1; rintro w' ⟨h0, h1, h2, h3, h4, h5, h6, h7, h8, h9, h10, h11, h12, h13, h14, h15⟩; exact cse13 _
        refine obe_val (by rfl) ?_ ?_
        · clear k1_g5_0 g1_g5_0 k1_g5_1 g1_g5_1 k1_g5_2 g1_g5_2 k1_g5_3 g1_g5_3 k1_g6_0 g1_g6_0 k1_g6_1 g1_g6_1 k1_g6_2 g1_g6_2 k1_g6_3 g1_g6_3 B1 z1; intro f hf; have u5 : f 5 = (.pointer (some ⟨g5, 0, none⟩)) := (by rw [← hf]; rfl); clear hf; rintro w' ⟨h0, h1, h2, h3, h4, h5, h6, h7, h8, h9, h10, h11, h12, h13, h14, h15⟩; go_simp; try exact IntWalk.i64_in _ (by omega)
        refine obe_val (by rfl) ?_ ?_
        · clear k1_g5_0 g1_g5_0 k1_g5_1 g1_g5_1 k1_g5_2 g1_g5_2 k1_g5_3 g1_g5_3 k1_g6_0 g1_g6_0 k1_g6_1 g1_g6_1 k1_g6_2 g1_g6_2 k1_g6_3 g1_g6_3 B1 z1; intro f hf; have u19 : f 19 = (.agg #[.int .u8 r, .int .u8 g, .int .u8 b, .int .u8 255]) := (by rw [← hf]; rfl); have u20 : f 20 = (.agg #[.int .u8 r, .int .u8 g, .int .u8 b, .int .u8 255]) := (by rw [← hf]; rfl); clear hf; rintro w' ⟨h0, h1, h2, h3, h4, h5, h6, h7, h8, h9, h10, h11, h12, h13, h14, h15⟩; go_simp; try exact IntWalk.i64_in _ (by omega)
        refine obe_nil ?_
        rintro w2 ⟨h0, h1, h2, h3, h4, h5, h6, h7, h8, h9, h10, h11, h12, h13, h14, h15⟩ hb2 hF
        (try simp only [List.nil_append, List.append_nil, List.cons_append] at hF)
        simp only [puts, putD, Act.put, List.setIfInBounds_toArray, List.set_cons_zero, List.set_cons_succ]
        clear hF
        have k2_g5_0 := bcs hb2 k1_g5_0
        have g2_g5_0 := bfs hb2 k1_g5_0 g1_g5_0
        have k2_g5_1 := bcs hb2 k1_g5_1
        have g2_g5_1 := bfs hb2 k1_g5_1 g1_g5_1
        have k2_g5_2 := bcs hb2 k1_g5_2
        have g2_g5_2 := bfs hb2 k1_g5_2 g1_g5_2
        have k2_g5_3 := bcs hb2 k1_g5_3
        have g2_g5_3 := bfs hb2 k1_g5_3 g1_g5_3
        have k2_g6_0 := bcs hb2 k1_g6_0
        have g2_g6_0 := bfs hb2 k1_g6_0 g1_g6_0
        have k2_g6_1 := bcs hb2 k1_g6_1
        have g2_g6_1 := bfs hb2 k1_g6_1 g1_g6_1
        have k2_g6_2 := bcs hb2 k1_g6_2
        have g2_g6_2 := bfs hb2 k1_g6_2 g1_g6_2
        have k2_g6_3 := bcs hb2 k1_g6_3
        have g2_g6_3 := bfs hb2 k1_g6_3 g1_g6_3
        clear h0 h1 h2 h3 h4 h5 h6 h7 h8 h9 h10 h11 h12 h13 h14 h15
        have B2 := bel_step B1 hb2
        have z2 := Nat.le_trans z1 hb2.size
        clear hb2
        (try clear B1)
        (try clear z1)
        (try clear k1_g5_0)
        (try clear g1_g5_0)
        (try clear k1_g5_1)
        (try clear g1_g5_1)
        (try clear k1_g5_2)
        (try clear g1_g5_2)
        (try clear k1_g5_3)
        (try clear g1_g5_3)
        (try clear k1_g6_0)
        (try clear g1_g6_0)
        (try clear k1_g6_1)
        (try clear g1_g6_1)
        (try clear k1_g6_2)
        (try clear g1_g6_2)
        (try clear k1_g6_3)
        (try clear g1_g6_3)
        (try clear q1_g5)
        (try clear x1_g5)
        (try clear y1_g5)
        (try clear q1_g6)
        (try clear x1_g6)
        (try clear y1_g6)
        have q2_g5 : g5 < w2.heap.size := qlt k2_g5_0
        have x2_g5 : ¬ g5 = w2.heap.size := qne k2_g5_0
        have y2_g5 : ¬ w2.heap.size = g5 := fun h => qne k2_g5_0 h.symm
        have q2_g6 : g6 < w2.heap.size := qlt k2_g6_0
        have x2_g6 : ¬ g6 = w2.heap.size := qne k2_g6_0
        have y2_g6 : ¬ w2.heap.size = g6 := fun h => qne k2_g6_0 h.symm
        unfold wpList
        go_wp2
        go_roundw
        case rel => exact ⟨14, rfl, by omega, by first | with_reducible assumption | go_simp, by first | with_reducible assumption | go_simp, by first | with_reducible assumption | go_simp, by first | with_reducible assumption | go_simp, by first | with_reducible assumption | go_simp, by first | with_reducible assumption | go_simp, by first | with_reducible assumption | go_simp, by first | with_reducible assumption | go_simp, by first | with_reducible assumption | go_simp, by first | with_reducible assumption | go_simp, by first | with_reducible assumption | go_simp, by first | with_reducible assumption | go_simp, by first | with_reducible assumption | go_simp, by first | with_reducible assumption | go_simp, by first | with_reducible assumption | go_simp, by first | with_reducible assumption | go_simp, by repeat (first | with_reducible exact Below.refl _ _ | with_reducible exact bel_step hB B2 | with_reducible apply below_drewN | with_reducible apply Below.drew | (with_reducible refine Below.alloc ?_ (by first | (simp; done) | (simp; omega) | omega) _) | (with_reducible refine Below.setCell ?_ (by first | (simp; done) | (simp; omega) | omega) _))⟩
        case measure => simp [intOf]
      · skip
        have hsz := hB.size
        go_wp2
        refine wp_region_env (fun w' => w'.cell? ⟨g5, 0, none⟩ = some (.int .u8 r) ∧ w'.frozen? ⟨g5, 0, none⟩ = false ∧ w'.cell? ⟨g5, 1, none⟩ = some (.int .u8 g) ∧ w'.frozen? ⟨g5, 1, none⟩ = false ∧ w'.cell? ⟨g5, 2, none⟩ = some (.int .u8 b) ∧ w'.frozen? ⟨g5, 2, none⟩ = false ∧ w'.cell? ⟨g5, 3, none⟩ = some (.int .u8 255) ∧ w'.frozen? ⟨g5, 3, none⟩ = false ∧ w'.cell? ⟨g6, 0, none⟩ = some (.int .u8 s) ∧ w'.frozen? ⟨g6, 0, none⟩ = false ∧ w'.cell? ⟨g6, 1, none⟩ = some (.int .u8 t) ∧ w'.frozen? ⟨g6, 1, none⟩ = false ∧ w'.cell? ⟨g6, 2, none⟩ = some (.int .u8 u) ∧ w'.frozen? ⟨g6, 2, none⟩ = false ∧ w'.cell? ⟨g6, 3, none⟩ = some (.int .u8 255) ∧ w'.frozen? ⟨g6, 3, none⟩ = false ∧ Nm w') (fun W => W.cell? ⟨g5, 0, none⟩ = some (.int .u8 r) ∧ W.frozen? ⟨g5, 0, none⟩ = false ∧ W.cell? ⟨g5, 1, none⟩ = some (.int .u8 g) ∧ W.frozen? ⟨g5, 1, none⟩ = false ∧ W.cell? ⟨g5, 2, none⟩ = some (.int .u8 b) ∧ W.frozen? ⟨g5, 2, none⟩ = false ∧ W.cell? ⟨g5, 3, none⟩ = some (.int .u8 255) ∧ W.frozen? ⟨g5, 3, none⟩ = false ∧ W.cell? ⟨g6, 0, none⟩ = some (.int .u8 s) ∧ W.frozen? ⟨g6, 0, none⟩ = false ∧ W.cell? ⟨g6, 1, none⟩ = some (.int .u8 t) ∧ W.frozen? ⟨g6, 1, none⟩ = false ∧ W.cell? ⟨g6, 2, none⟩ = some (.int .u8 u) ∧ W.frozen? ⟨g6, 2, none⟩ = false ∧ W.cell? ⟨g6, 3, none⟩ = some (.int .u8 255) ∧ W.frozen? ⟨g6, 3, none⟩ = false ∧ Nm W ∧ Below wr.heap.size wr W ∧ wr.heap.size ≤ W.heap.size) 11 32 [.val (.agg #[.int .u8 r, .int .u8 g, .int .u8 b, .int .u8 255]), .val (.agg #[.int .u8 s, .int .u8 t, .int .u8 u, .int .u8 255]), .call 23 #[.int .i64 12, .agg #[.int .u8 r, .int .u8 g, .int .u8 b, .int .u8 255], .agg #[.int .u8 s, .int .u8 t, .int .u8 u, .int .u8 255]] (.agg #[.int .u8 pz0, .int .u8 pz1, .int .u8 pz2, .int .u8 255]), .val (.agg #[.int .u8 s, .int .u8 t, .int .u8 u, .int .u8 255]), .val (.agg #[.int .u8 r, .int .u8 g, .int .u8 b, .int .u8 255]), .call 23 #[.int .i64 13, .agg #[.int .u8 s, .int .u8 t, .int .u8 u, .int .u8 255], .agg #[.int .u8 r, .int .u8 g, .int .u8 b, .int .u8 255]] (.agg #[.int .u8 pz0, .int .u8 pz1, .int .u8 pz2, .int .u8 255]), .val (.bool true), .val (.bool true), .call 20 #[] (.bool true), .val (.bool true), .val (.bool true)] (by kernel_rfl) (by kernel_rfl) rfl (by kernel_rfl) (by rintro w1 w2 ⟨h0, h1, h2, h3, h4, h5, h6, h7, h8, h9, h10, h11, h12, h13, h14, h15, h16⟩ hb; exact ⟨bcs hb h0, bfs hb h0 h1, bcs hb h2, bfs hb h2 h3, bcs hb h4, bfs hb h4 h5, bcs hb h6, bfs hb h6 h7, bcs hb h8, bfs hb h8 h9, bcs hb h10, bfs hb h10 h11, bcs hb h12, bfs hb h12 h13, bcs hb h14, bfs hb h14 h15, Nm.below h16 hb⟩) ⟨bcs (by repeat (first | with_reducible exact Below.refl _ _ | fail | with_reducible apply below_drewN | with_reducible apply Below.drew | (with_reducible refine Below.alloc ?_ (by first | (simp; done) | (simp; omega) | omega) _) | (with_reducible refine Below.setCell ?_ (by first | (simp; done) | (simp; omega) | omega) _))) kx0, bfs (by repeat (first | with_reducible exact Below.refl _ _ | fail | with_reducible apply below_drewN | with_reducible apply Below.drew | (with_reducible refine Below.alloc ?_ (by first | (simp; done) | (simp; omega) | omega) _) | (with_reducible refine Below.setCell ?_ (by first | (simp; done) | (simp; omega) | omega) _))) kx0 gx0, bcs (by repeat (first | with_reducible exact Below.refl _ _ | fail | with_reducible apply below_drewN | with_reducible apply Below.drew | (with_reducible refine Below.alloc ?_ (by first | (simp; done) | (simp; omega) | omega) _) | (with_reducible refine Below.setCell ?_ (by first | (simp; done) | (simp; omega) | omega) _))) kx1, bfs (by repeat (first | with_reducible exact Below.refl _ _ | fail | with_reducible apply below_drewN | with_reducible apply Below.drew | (with_reducible refine Below.alloc ?_ (by first | (simp; done) | (simp; omega) | omega) _) | (with_reducible refine Below.setCell ?_ (by first | (simp; done) | (simp; omega) | omega) _))) kx1 gx1, bcs (by repeat (first | with_reducible exact Below.refl _ _ | fail | with_reducible apply below_drewN | with_reducible apply Below.drew | (with_reducible refine Below.alloc ?_ (by first | (simp; done) | (simp; omega) | omega) _) | (with_reducible refine Below.setCell ?_ (by first | (simp; done) | (simp; omega) | omega) _))) kx2, bfs (by repeat (first | with_reducible exact Below.refl _ _ | fail | with_reducible apply below_drewN | with_reducible apply Below.drew | (with_reducible refine Below.alloc ?_ (by first | (simp; done) | (simp; omega) | omega) _) | (with_reducible refine Below.setCell ?_ (by first | (simp; done) | (simp; omega) | omega) _))) kx2 gx2, bcs (by repeat (first | with_reducible exact Below.refl _ _ | fail | with_reducible apply below_drewN | with_reducible apply Below.drew | (with_reducible refine Below.alloc ?_ (by first | (simp; done) | (simp; omega) | omega) _) | (with_reducible refine Below.setCell ?_ (by first | (simp; done) | (simp; omega) | omega) _))) kx3, bfs (by repeat (first | with_reducible exact Below.refl _ _ | fail | with_reducible apply below_drewN | with_reducible apply Below.drew | (with_reducible refine Below.alloc ?_ (by first | (simp; done) | (simp; omega) | omega) _) | (with_reducible refine Below.setCell ?_ (by first | (simp; done) | (simp; omega) | omega) _))) kx3 gx3, bcs (by repeat (first | with_reducible exact Below.refl _ _ | fail | with_reducible apply below_drewN | with_reducible apply Below.drew | (with_reducible refine Below.alloc ?_ (by first | (simp; done) | (simp; omega) | omega) _) | (with_reducible refine Below.setCell ?_ (by first | (simp; done) | (simp; omega) | omega) _))) ky0, bfs (by repeat (first | with_reducible exact Below.refl _ _ | fail | with_reducible apply below_drewN | with_reducible apply Below.drew | (with_reducible refine Below.alloc ?_ (by first | (simp; done) | (simp; omega) | omega) _) | (with_reducible refine Below.setCell ?_ (by first | (simp; done) | (simp; omega) | omega) _))) ky0 gy0, bcs (by repeat (first | with_reducible exact Below.refl _ _ | fail | with_reducible apply below_drewN | with_reducible apply Below.drew | (with_reducible refine Below.alloc ?_ (by first | (simp; done) | (simp; omega) | omega) _) | (with_reducible refine Below.setCell ?_ (by first | (simp; done) | (simp; omega) | omega) _))) ky1, bfs (by repeat (first | with_reducible exact Below.refl _ _ | fail | with_reducible apply below_drewN | with_reducible apply Below.drew | (with_reducible refine Below.alloc ?_ (by first | (simp; done) | (simp; omega) | omega) _) | (with_reducible refine Below.setCell ?_ (by first | (simp; done) | (simp; omega) | omega) _))) ky1 gy1, bcs (by repeat (first | with_reducible exact Below.refl _ _ | fail | with_reducible apply below_drewN | with_reducible apply Below.drew | (with_reducible refine Below.alloc ?_ (by first | (simp; done) | (simp; omega) | omega) _) | (with_reducible refine Below.setCell ?_ (by first | (simp; done) | (simp; omega) | omega) _))) ky2, bfs (by repeat (first | with_reducible exact Below.refl _ _ | fail | with_reducible apply below_drewN | with_reducible apply Below.drew | (with_reducible refine Below.alloc ?_ (by first | (simp; done) | (simp; omega) | omega) _) | (with_reducible refine Below.setCell ?_ (by first | (simp; done) | (simp; omega) | omega) _))) ky2 gy2, bcs (by repeat (first | with_reducible exact Below.refl _ _ | fail | with_reducible apply below_drewN | with_reducible apply Below.drew | (with_reducible refine Below.alloc ?_ (by first | (simp; done) | (simp; omega) | omega) _) | (with_reducible refine Below.setCell ?_ (by first | (simp; done) | (simp; omega) | omega) _))) ky3, bfs (by repeat (first | with_reducible exact Below.refl _ _ | fail | with_reducible apply below_drewN | with_reducible apply Below.drew | (with_reducible refine Below.alloc ?_ (by first | (simp; done) | (simp; omega) | omega) _) | (with_reducible refine Below.setCell ?_ (by first | (simp; done) | (simp; omega) | omega) _))) ky3 gy3, Nm.below hNr (by repeat (first | with_reducible exact Below.refl _ _ | fail | with_reducible apply below_drewN | with_reducible apply Below.drew | (with_reducible refine Below.alloc ?_ (by first | (simp; done) | (simp; omega) | omega) _) | (with_reducible refine Below.setCell ?_ (by first | (simp; done) | (simp; omega) | omega) _))), by repeat (first | with_reducible exact Below.refl _ _ | fail | with_reducible apply below_drewN | with_reducible apply Below.drew | (with_reducible refine Below.alloc ?_ (by first | (simp; done) | (simp; omega) | omega) _) | (with_reducible refine Below.setCell ?_ (by first | (simp; done) | (simp; omega) | omega) _)), by first | with_reducible assumption | (simp; done) | (simp; omega)⟩ ?_ ?_
        · rintro W ⟨k1_g5_0, g1_g5_0, k1_g5_1, g1_g5_1, k1_g5_2, g1_g5_2, k1_g5_3, g1_g5_3, k1_g6_0, g1_g6_0, k1_g6_1, g1_g6_1, k1_g6_2, g1_g6_2, k1_g6_3, g1_g6_3, e1_0, B1, z1⟩; exact ⟨k1_g5_0, g1_g5_0, k1_g5_1, g1_g5_1, k1_g5_2, g1_g5_2, k1_g5_3, g1_g5_3, k1_g6_0, g1_g6_0, k1_g6_1, g1_g6_1, k1_g6_2, g1_g6_2, k1_g6_3, g1_g6_3, e1_0⟩
        rintro w1 ⟨k1_g5_0, g1_g5_0, k1_g5_1, g1_g5_1, k1_g5_2, g1_g5_2, k1_g5_3, g1_g5_3, k1_g6_0, g1_g6_0, k1_g6_1, g1_g6_1, k1_g6_2, g1_g6_2, k1_g6_3, g1_g6_3, e1_0, B1, z1⟩ gg
        simp only [List.take_succ_cons, List.take_zero, List.drop_succ_cons, List.drop_zero, List.cons_append, List.nil_append, List.append_nil]
        refine obe_val (by rfl) ?_ ?_
        · clear k1_g5_0 g1_g5_0 k1_g5_1 g1_g5_1 k1_g5_2 g1_g5_2 k1_g5_3 g1_g5_3 k1_g6_0 g1_g6_0 k1_g6_1 g1_g6_1 k1_g6_2 g1_g6_2 k1_g6_3 g1_g6_3 e1_0 B1 z1; intro f hf; have u5 : f 5 = (.pointer (some ⟨g5, 0, none⟩)) := (by rw [← hf]; rfl); clear hf; rintro w' ⟨h0, h1, h2, h3, h4, h5, h6, h7, h8, h9, h10, h11, h12, h13, h14, h15, h16⟩; go_simp; try exact IntWalk.i64_in _ (by omega)
        refine obe_val (by rfl) ?_ ?_
        · clear k1_g5_0 g1_g5_0 k1_g5_1 g1_g5_1 k1_g5_2 g1_g5_2 k1_g5_3 g1_g5_3 k1_g6_0 g1_g6_0 k1_g6_1 g1_g6_1 k1_g6_2 g1_g6_2 k1_g6_3 g1_g6_3 e1_0 B1 z1; intro f hf; have u6 : f 6 = (.pointer (some ⟨g6, 0, none⟩)) := (by rw [← hf]; rfl); clear hf; rintro w' ⟨h0, h1, h2, h3, h4, h5, h6, h7, h8, h9, h10, h11, h12, h13, h14, h15, h16⟩; go_simp; try exact IntWalk.i64_in _ (by omega)
        refine obe_call (by rfl) ?_ ?_ ?_
        · clear k1_g5_0 g1_g5_0 k1_g5_1 g1_g5_1 k1_g5_2 g1_g5_2 k1_g5_3 g1_g5_3 k1_g6_0 g1_g6_0 k1_g6_1 g1_g6_1 k1_g6_2 g1_g6_2 k1_g6_3 g1_g6_3 e1_0 B1 z1; intro f hf; have u22 : f 22 = (.agg #[.int .u8 r, .int .u8 g, .int .u8 b, .int .u8 255]) := (by rw [← hf]; rfl); have u23 : f 23 = (.agg #[.int .u8 s, .int .u8 t, .int .u8 u, .int .u8 255]) := (by rw [← hf]; rfl); clear hf; intro w' _; simp only [execOp, resolve, invoke, rhoF_tmp, rhoF_func, rhoF_const, u22, u23, List.map_toArray, List.map_cons, List.map_nil]; go_simp
        · clear k1_g5_0 g1_g5_0 k1_g5_1 g1_g5_1 k1_g5_2 g1_g5_2 k1_g5_3 g1_g5_3 k1_g6_0 g1_g6_0 k1_g6_1 g1_g6_1 k1_g6_2 g1_g6_2 k1_g6_3 g1_g6_3 e1_0 B1 z1; rintro w' ⟨h0, h1, h2, h3, h4, h5, h6, h7, h8, h9, h10, h11, h12, h13, h14, h15, h16⟩; exact c12 _
        refine obe_val (by rfl) ?_ ?_
        · clear k1_g5_0 g1_g5_0 k1_g5_1 g1_g5_1 k1_g5_2 g1_g5_2 k1_g5_3 g1_g5_3 k1_g6_0 g1_g6_0 k1_g6_1 g1_g6_1 k1_g6_2 g1_g6_2 k1_g6_3 g1_g6_3 e1_0 B1 z1; intro f hf; have u6 : f 6 = (.pointer (some ⟨g6, 0, none⟩)) := (by rw [← hf]; rfl); clear hf; rintro w' ⟨h0, h1, h2, h3, h4, h5, h6, h7, h8, h9, h10, h11, h12, h13, h14, h15, h16⟩; go_simp; try exact IntWalk.i64_in _ (by omega)
        refine obe_val (by rfl) ?_ ?_
        · clear k1_g5_0 g1_g5_0 k1_g5_1 g1_g5_1 k1_g5_2 g1_g5_2 k1_g5_3 g1_g5_3 k1_g6_0 g1_g6_0 k1_g6_1 g1_g6_1 k1_g6_2 g1_g6_2 k1_g6_3 g1_g6_3 e1_0 B1 z1; intro f hf; have u5 : f 5 = (.pointer (some ⟨g5, 0, none⟩)) := (by rw [← hf]; rfl); clear hf; rintro w' ⟨h0, h1, h2, h3, h4, h5, h6, h7, h8, h9, h10, h11, h12, h13, h14, h15, h16⟩; go_simp; try exact IntWalk.i64_in _ (by omega)
        refine obe_call (by rfl) ?_ ?_ ?_
        · clear k1_g5_0 g1_g5_0 k1_g5_1 g1_g5_1 k1_g5_2 g1_g5_2 k1_g5_3 g1_g5_3 k1_g6_0 g1_g6_0 k1_g6_1 g1_g6_1 k1_g6_2 g1_g6_2 k1_g6_3 g1_g6_3 e1_0 B1 z1; intro f hf; have u25 : f 25 = (.agg #[.int .u8 s, .int .u8 t, .int .u8 u, .int .u8 255]) := (by rw [← hf]; rfl); have u26 : f 26 = (.agg #[.int .u8 r, .int .u8 g, .int .u8 b, .int .u8 255]) := (by rw [← hf]; rfl); clear hf; intro w' _; simp only [execOp, resolve, invoke, rhoF_tmp, rhoF_func, rhoF_const, u25, u26, List.map_toArray, List.map_cons, List.map_nil]; go_simp
        · clear k1_g5_0 g1_g5_0 k1_g5_1 g1_g5_1 k1_g5_2 g1_g5_2 k1_g5_3 g1_g5_3 k1_g6_0 g1_g6_0 k1_g6_1 g1_g6_1 k1_g6_2 g1_g6_2 k1_g6_3 g1_g6_3 e1_0 B1 z1; rintro w' ⟨h0, h1, h2, h3, h4, h5, h6, h7, h8, h9, h10, h11, h12, h13, h14, h15, h16⟩; exact c13 _
        refine obe_val (by rfl) ?_ ?_
        · clear k1_g5_0 g1_g5_0 k1_g5_1 g1_g5_1 k1_g5_2 g1_g5_2 k1_g5_3 g1_g5_3 k1_g6_0 g1_g6_0 k1_g6_1 g1_g6_1 k1_g6_2 g1_g6_2 k1_g6_3 g1_g6_3 e1_0 B1 z1; intro f hf; have u24 : f 24 = (.agg #[.int .u8 pz0, .int .u8 pz1, .int .u8 pz2, .int .u8 255]) := (by rw [← hf]; rfl); have u27 : f 27 = (.agg #[.int .u8 pz0, .int .u8 pz1, .int .u8 pz2, .int .u8 255]) := (by rw [← hf]; rfl); clear hf; rintro w' ⟨h0, h1, h2, h3, h4, h5, h6, h7, h8, h9, h10, h11, h12, h13, h14, h15, h16⟩; go_simp; try exact IntWalk.i64_in _ (by omega)
        refine obe_val (by rfl) ?_ ?_
        · clear k1_g5_0 g1_g5_0 k1_g5_1 g1_g5_1 k1_g5_2 g1_g5_2 k1_g5_3 g1_g5_3 k1_g6_0 g1_g6_0 k1_g6_1 g1_g6_1 k1_g6_2 g1_g6_2 k1_g6_3 g1_g6_3 e1_0 B1 z1; intro f hf; have u28 : f 28 = (.bool true) := (by rw [← hf]; rfl); clear hf; rintro w' ⟨h0, h1, h2, h3, h4, h5, h6, h7, h8, h9, h10, h11, h12, h13, h14, h15, h16⟩; go_simp; try exact IntWalk.i64_in _ (by omega)
        refine obe_call (by rfl) ?_ ?_ ?_
        · clear k1_g5_0 g1_g5_0 k1_g5_1 g1_g5_1 k1_g5_2 g1_g5_2 k1_g5_3 g1_g5_3 k1_g6_0 g1_g6_0 k1_g6_1 g1_g6_1 k1_g6_2 g1_g6_2 k1_g6_3 g1_g6_3 e1_0 B1 z1; intro f hf; clear hf; intro w' _; simp only [execOp, resolve, invoke, rhoF_tmp, rhoF_func, rhoF_const, List.map_toArray, List.map_cons, List.map_nil]; go_simp
        · clear k1_g5_0 g1_g5_0 k1_g5_1 g1_g5_1 k1_g5_2 g1_g5_2 k1_g5_3 g1_g5_3 k1_g6_0 g1_g6_0 k1_g6_1 g1_g6_1 k1_g6_2 g1_g6_2 k1_g6_3 g1_g6_3 e1_0 B1 z1; rintro w' ⟨h0, h1, h2, h3, h4, h5, h6, h7, h8, h9, h10, h11, h12, h13, h14, h15, h16⟩; exact bex_any _ (by assumption)
        refine obe_val (by rfl) ?_ ?_
        · clear k1_g5_0 g1_g5_0 k1_g5_1 g1_g5_1 k1_g5_2 g1_g5_2 k1_g5_3 g1_g5_3 k1_g6_0 g1_g6_0 k1_g6_1 g1_g6_1 k1_g6_2 g1_g6_2 k1_g6_3 g1_g6_3 e1_0 B1 z1; intro f hf; have u29 : f 29 = (.bool true) := (by rw [← hf]; rfl); have u30 : f 30 = (.bool true) := (by rw [← hf]; rfl); clear hf; rintro w' ⟨h0, h1, h2, h3, h4, h5, h6, h7, h8, h9, h10, h11, h12, h13, h14, h15, h16⟩; go_simp; try exact IntWalk.i64_in _ (by omega)
        refine obe_val (by rfl) ?_ ?_
        · clear k1_g5_0 g1_g5_0 k1_g5_1 g1_g5_1 k1_g5_2 g1_g5_2 k1_g5_3 g1_g5_3 k1_g6_0 g1_g6_0 k1_g6_1 g1_g6_1 k1_g6_2 g1_g6_2 k1_g6_3 g1_g6_3 e1_0 B1 z1; intro f hf; have u31 : f 31 = (.bool true) := (by rw [← hf]; rfl); clear hf; rintro w' ⟨h0, h1, h2, h3, h4, h5, h6, h7, h8, h9, h10, h11, h12, h13, h14, h15, h16⟩; go_simp; try exact IntWalk.i64_in _ (by omega)
        refine obe_nil ?_
        rintro w2 ⟨h0, h1, h2, h3, h4, h5, h6, h7, h8, h9, h10, h11, h12, h13, h14, h15, h16⟩ hb2 hF
        (try simp only [List.nil_append, List.append_nil, List.cons_append] at hF)
        simp only [puts, putD, Act.put, List.setIfInBounds_toArray, List.set_cons_zero, List.set_cons_succ]
        clear hF
        have k2_g5_0 := bcs hb2 k1_g5_0
        have g2_g5_0 := bfs hb2 k1_g5_0 g1_g5_0
        have k2_g5_1 := bcs hb2 k1_g5_1
        have g2_g5_1 := bfs hb2 k1_g5_1 g1_g5_1
        have k2_g5_2 := bcs hb2 k1_g5_2
        have g2_g5_2 := bfs hb2 k1_g5_2 g1_g5_2
        have k2_g5_3 := bcs hb2 k1_g5_3
        have g2_g5_3 := bfs hb2 k1_g5_3 g1_g5_3
        have k2_g6_0 := bcs hb2 k1_g6_0
        have g2_g6_0 := bfs hb2 k1_g6_0 g1_g6_0
        have k2_g6_1 := bcs hb2 k1_g6_1
        have g2_g6_1 := bfs hb2 k1_g6_1 g1_g6_1
        have k2_g6_2 := bcs hb2 k1_g6_2
        have g2_g6_2 := bfs hb2 k1_g6_2 g1_g6_2
        have k2_g6_3 := bcs hb2 k1_g6_3
        have g2_g6_3 := bfs hb2 k1_g6_3 g1_g6_3
        clear h0 h1 h2 h3 h4 h5 h6 h7 h8 h9 h10 h11 h12 h13 h14 h15 h16
        have B2 := bel_step B1 hb2
        have z2 := Nat.le_trans z1 hb2.size
        have e2_0 := Nm.below hNr B2
        clear hb2
        (try clear B1)
        (try clear z1)
        (try clear k1_g5_0)
        (try clear g1_g5_0)
        (try clear k1_g5_1)
        (try clear g1_g5_1)
        (try clear k1_g5_2)
        (try clear g1_g5_2)
        (try clear k1_g5_3)
        (try clear g1_g5_3)
        (try clear k1_g6_0)
        (try clear g1_g6_0)
        (try clear k1_g6_1)
        (try clear g1_g6_1)
        (try clear k1_g6_2)
        (try clear g1_g6_2)
        (try clear k1_g6_3)
        (try clear g1_g6_3)
        (try clear e1_0)
        (try clear q1_g5)
        (try clear x1_g5)
        (try clear y1_g5)
        (try clear q1_g6)
        (try clear x1_g6)
        (try clear y1_g6)
        have q2_g5 : g5 < w2.heap.size := qlt k2_g5_0
        have x2_g5 : ¬ g5 = w2.heap.size := qne k2_g5_0
        have y2_g5 : ¬ w2.heap.size = g5 := fun h => qne k2_g5_0 h.symm
        have q2_g6 : g6 < w2.heap.size := qlt k2_g6_0
        have x2_g6 : ¬ g6 = w2.heap.size := qne k2_g6_0
        have y2_g6 : ¬ w2.heap.size = g6 := fun h => qne k2_g6_0 h.symm
        unfold wpList
        go_wp2
        go_ret
        refine ⟨rfl, ?_⟩
        repeat (first | with_reducible exact Below.refl _ _ | with_reducible exact bel_step hB B2 | with_reducible apply below_drewN | with_reducible apply Below.drew | (with_reducible refine Below.alloc ?_ (by first | (simp; done) | (simp; omega) | omega) _) | (with_reducible refine Below.setCell ?_ (by first | (simp; done) | (simp; omega) | omega) _))
end Go.Proofs.YtdhajiaepaamgaaDoor
