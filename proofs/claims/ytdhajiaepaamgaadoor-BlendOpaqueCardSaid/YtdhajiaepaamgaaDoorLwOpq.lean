import Derived.Test.YtdhajiaepaamgaaDoorBX
import Derived.Test.YtdhajiaepaamgaaDoorSymNum
import Derived.WalkKit
import Derived.Deep.CutRange
import Derived.WalkSpells
import Derived.WalkLawsBesides
import Derived.Lib.Hide
import Derived.Below
import Derived.Deep.QuietTactic
import Derived.BigQuiet
import Derived.Deep.RegionHeld3
import Derived.Deep.DrawnRows
import Derived.Deep.DeepFit
import Derived.IntWalk
namespace Go.Proofs.YtdhajiaepaamgaaDoor
open Go.RowKit
set_option linter.unusedVariables false
set_option linter.unusedSimpArgs false
attribute [local go_sem ↓] Go.wp_at_zero Go.wp_at_succ
attribute [local go_sem] rhoF_tmp rhoF_const rhoF_global rhoF_func

set_option maxHeartbeats 8000000 in
theorem bopq_w (r g b a s t u d : Int) (r0 : 0 ≤ r) (r1 : r ≤ 255) (g0 : 0 ≤ g) (g1 : g ≤ 255) (b0 : 0 ≤ b) (b1 : b ≤ 255) (a0 : 0 ≤ a) (a1 : a ≤ 255) (s0 : 0 ≤ s) (s1 : s ≤ 255) (t0 : 0 ≤ t) (t1 : t ≤ 255) (u0 : 0 ≤ u) (u1 : u ≤ 255) (d0 : 0 ≤ d) (d1 : d ≤ 255) (w : World) (hN : Nm w) :
    Calls Tryd.prog 9 #[.agg #[.int .u8 r, .int .u8 g, .int .u8 b, .int .u8 a], .agg #[.int .u8 s, .int .u8 t, .int .u8 u, .int .u8 d]] w fun e w' => e = .returned (.bool true) ∧ Below w.heap.size w w' := by
  have c1 := fun w => blend_any 1 r g b 255 s t u 255 (by omega) (by omega) r0 r1 g0 g1 b0 b1 (by omega) (by omega) s0 s1 t0 t1 u0 u1 (by omega) (by omega) w
  rw [op_1 r s r0 r1 s0 s1, op_1 g t g0 g1 t0 t1, op_1 b u b0 b1 u0 u1, op_a] at c1
  have c2 := fun w => blend_any 2 255 255 255 255 s t u 255 (by omega) (by omega) (by omega) (by omega) (by omega) (by omega) (by omega) (by omega) (by omega) (by omega) s0 s1 t0 t1 u0 u1 (by omega) (by omega) w
  rw [op_2 s s0 s1, op_2 t t0 t1, op_2 u u0 u1, op_a] at c2
  have c3 := fun w => blend_any 3 0 0 0 255 s t u 255 (by omega) (by omega) (by omega) (by omega) (by omega) (by omega) (by omega) (by omega) (by omega) (by omega) s0 s1 t0 t1 u0 u1 (by omega) (by omega) w
  rw [op_3 s s0 s1, op_3 t t0 t1, op_3 u u0 u1, op_a] at c3
  have c7 := fun w => blend_any 7 0 0 0 255 s t u 255 (by omega) (by omega) (by omega) (by omega) (by omega) (by omega) (by omega) (by omega) (by omega) (by omega) s0 s1 t0 t1 u0 u1 (by omega) (by omega) w
  rw [op_7 s s0 s1, op_7 t t0 t1, op_7 u u0 u1, op_a] at c7
  have c8 := fun w => blend_any 7 s t u 255 s t u 255 (by omega) (by omega) s0 s1 t0 t1 u0 u1 (by omega) (by omega) s0 s1 t0 t1 u0 u1 (by omega) (by omega) w
  rw [op_8 s s0 s1, op_8 t t0 t1, op_8 u u0 u1, op_a] at c8
  go_enter Tryd.func9, Tryd.ntmps9
  go_wp2
  go_cut [5, 6] from 9 to 10 (fun vx vy wc => ∃ gx gy : Nat, vx = .pointer (some ⟨gx, 0, none⟩) ∧ vy = .pointer (some ⟨gy, 0, none⟩) ∧ ¬ gx = gy ∧ w.heap.size + 1 + 1 ≤ gx ∧ w.heap.size + 1 + 1 ≤ gy ∧ wc.cell? ⟨w.heap.size, 0, none⟩ = some (.int .u8 r) ∧ wc.frozen? ⟨w.heap.size, 0, none⟩ = false ∧ wc.cell? ⟨w.heap.size, 1, none⟩ = some (.int .u8 g) ∧ wc.frozen? ⟨w.heap.size, 1, none⟩ = false ∧ wc.cell? ⟨w.heap.size, 2, none⟩ = some (.int .u8 b) ∧ wc.frozen? ⟨w.heap.size, 2, none⟩ = false ∧ wc.cell? ⟨w.heap.size, 3, none⟩ = some (.int .u8 a) ∧ wc.frozen? ⟨w.heap.size, 3, none⟩ = false ∧ wc.cell? ⟨w.heap.size + 1, 0, none⟩ = some (.int .u8 s) ∧ wc.frozen? ⟨w.heap.size + 1, 0, none⟩ = false ∧ wc.cell? ⟨w.heap.size + 1, 1, none⟩ = some (.int .u8 t) ∧ wc.frozen? ⟨w.heap.size + 1, 1, none⟩ = false ∧ wc.cell? ⟨w.heap.size + 1, 2, none⟩ = some (.int .u8 u) ∧ wc.frozen? ⟨w.heap.size + 1, 2, none⟩ = false ∧ wc.cell? ⟨w.heap.size + 1, 3, none⟩ = some (.int .u8 d) ∧ wc.frozen? ⟨w.heap.size + 1, 3, none⟩ = false ∧ wc.cell? ⟨gx, 0, none⟩ = some (.int .u8 r) ∧ wc.frozen? ⟨gx, 0, none⟩ = false ∧ wc.cell? ⟨gx, 1, none⟩ = some (.int .u8 g) ∧ wc.frozen? ⟨gx, 1, none⟩ = false ∧ wc.cell? ⟨gx, 2, none⟩ = some (.int .u8 b) ∧ wc.frozen? ⟨gx, 2, none⟩ = false ∧ wc.cell? ⟨gx, 3, none⟩ = some (.int .u8 a) ∧ wc.frozen? ⟨gx, 3, none⟩ = false ∧ wc.cell? ⟨gy, 0, none⟩ = some (.int .u8 s) ∧ wc.frozen? ⟨gy, 0, none⟩ = false ∧ wc.cell? ⟨gy, 1, none⟩ = some (.int .u8 t) ∧ wc.frozen? ⟨gy, 1, none⟩ = false ∧ wc.cell? ⟨gy, 2, none⟩ = some (.int .u8 u) ∧ wc.frozen? ⟨gy, 2, none⟩ = false ∧ wc.cell? ⟨gy, 3, none⟩ = some (.int .u8 d) ∧ wc.frozen? ⟨gy, 3, none⟩ = false ∧ Below w.heap.size w wc)
  case first =>
    go_region
    all_goals go_wp2
    all_goals go_meet
    all_goals refine ⟨_, _, rfl, rfl, by first | (simp; done) | (simp; omega) | omega, by first | (simp; done) | (simp; omega) | omega, by first | (simp; done) | (simp; omega) | omega, by first | with_reducible assumption | go_simp, by first | with_reducible assumption | go_simp, by first | with_reducible assumption | go_simp, by first | with_reducible assumption | go_simp, by first | with_reducible assumption | go_simp, by first | with_reducible assumption | go_simp, by first | with_reducible assumption | go_simp, by first | with_reducible assumption | go_simp, by first | with_reducible assumption | go_simp, by first | with_reducible assumption | go_simp, by first | with_reducible assumption | go_simp, by first | with_reducible assumption | go_simp, by first | with_reducible assumption | go_simp, by first | with_reducible assumption | go_simp, by first | with_reducible assumption | go_simp, by first | with_reducible assumption | go_simp, by first | with_reducible assumption | go_simp, by first | with_reducible assumption | go_simp, by first | with_reducible assumption | go_simp, by first | with_reducible assumption | go_simp, by first | with_reducible assumption | go_simp, by first | with_reducible assumption | go_simp, by first | with_reducible assumption | go_simp, by first | with_reducible assumption | go_simp, by first | with_reducible assumption | go_simp, by first | with_reducible assumption | go_simp, by first | with_reducible assumption | go_simp, by first | with_reducible assumption | go_simp, by first | with_reducible assumption | go_simp, by first | with_reducible assumption | go_simp, by first | with_reducible assumption | go_simp, by first | with_reducible assumption | go_simp, by repeat (first | with_reducible exact Below.refl _ _ | fail | with_reducible apply below_drewN | with_reducible apply Below.drew | (with_reducible refine Below.alloc ?_ (by first | (simp; done) | (simp; omega) | omega) _) | (with_reducible refine Below.setCell ?_ (by first | (simp; done) | (simp; omega) | omega) _))⟩
  case rest =>
    obtain ⟨g5, g6, rfl, rfl, ng5_g6, mg5, mg6, k1_b2_0, g1_b2_0, k1_b2_1, g1_b2_1, k1_b2_2, g1_b2_2, k1_b2_3, g1_b2_3, k1_b3_0, g1_b3_0, k1_b3_1, g1_b3_1, k1_b3_2, g1_b3_2, k1_b3_3, g1_b3_3, k1_g5_0, g1_g5_0, k1_g5_1, g1_g5_1, k1_g5_2, g1_g5_2, k1_g5_3, g1_g5_3, k1_g6_0, g1_g6_0, k1_g6_1, g1_g6_1, k1_g6_2, g1_g6_2, k1_g6_3, g1_g6_3, B1⟩ := hcut
    have ng6_g5 : ¬ g6 = g5 := fun h => ng5_g6 h.symm
    have e1_0 := Nm.below hN B1
    have z1 : w.heap.size + 1 + 1 ≤ wc.heap.size := by have := qlt k1_b3_0; omega
    have ng5_b2 : ¬ g5 = w.heap.size := by omega
    have nb2_g5 : ¬ w.heap.size = g5 := by omega
    have ng6_b2 : ¬ g6 = w.heap.size := by omega
    have nb2_g6 : ¬ w.heap.size = g6 := by omega
    have ng5_b3 : ¬ g5 = w.heap.size + 1 := by omega
    have nb3_g5 : ¬ w.heap.size + 1 = g5 := by omega
    have ng6_b3 : ¬ g6 = w.heap.size + 1 := by omega
    have nb3_g6 : ¬ w.heap.size + 1 = g6 := by omega
    have q1_b2 : w.heap.size < wc.heap.size := qlt k1_b2_0
    have x1_b2 : ¬ w.heap.size = wc.heap.size := qne k1_b2_0
    have y1_b2 : ¬ wc.heap.size = w.heap.size := fun h => qne k1_b2_0 h.symm
    have xp_b2 : ¬ w.heap.size = wc.heap.size + 1 := by omega
    have yp_b2 : ¬ wc.heap.size + 1 = w.heap.size := by omega
    have q1_b3 : w.heap.size + 1 < wc.heap.size := qlt k1_b3_0
    have x1_b3 : ¬ w.heap.size + 1 = wc.heap.size := qne k1_b3_0
    have y1_b3 : ¬ wc.heap.size = w.heap.size + 1 := fun h => qne k1_b3_0 h.symm
    have xp_b3 : ¬ w.heap.size + 1 = wc.heap.size + 1 := by omega
    have yp_b3 : ¬ wc.heap.size + 1 = w.heap.size + 1 := by omega
    have q1_g5 : g5 < wc.heap.size := qlt k1_g5_0
    have x1_g5 : ¬ g5 = wc.heap.size := qne k1_g5_0
    have y1_g5 : ¬ wc.heap.size = g5 := fun h => qne k1_g5_0 h.symm
    have xp_g5 : ¬ g5 = wc.heap.size + 1 := by omega
    have yp_g5 : ¬ wc.heap.size + 1 = g5 := by omega
    have q1_g6 : g6 < wc.heap.size := qlt k1_g6_0
    have x1_g6 : ¬ g6 = wc.heap.size := qne k1_g6_0
    have y1_g6 : ¬ wc.heap.size = g6 := fun h => qne k1_g6_0 h.symm
    have xp_g6 : ¬ g6 = wc.heap.size + 1 := by omega
    have yp_g6 : ¬ wc.heap.size + 1 = g6 := by omega
    go_wp2
    refine wp_region_env (fun w' => w'.cell? ⟨w.heap.size, 0, none⟩ = some (.int .u8 r) ∧ w'.frozen? ⟨w.heap.size, 0, none⟩ = false ∧ w'.cell? ⟨w.heap.size, 1, none⟩ = some (.int .u8 g) ∧ w'.frozen? ⟨w.heap.size, 1, none⟩ = false ∧ w'.cell? ⟨w.heap.size, 2, none⟩ = some (.int .u8 b) ∧ w'.frozen? ⟨w.heap.size, 2, none⟩ = false ∧ w'.cell? ⟨w.heap.size, 3, none⟩ = some (.int .u8 a) ∧ w'.frozen? ⟨w.heap.size, 3, none⟩ = false ∧ w'.cell? ⟨w.heap.size + 1, 0, none⟩ = some (.int .u8 s) ∧ w'.frozen? ⟨w.heap.size + 1, 0, none⟩ = false ∧ w'.cell? ⟨w.heap.size + 1, 1, none⟩ = some (.int .u8 t) ∧ w'.frozen? ⟨w.heap.size + 1, 1, none⟩ = false ∧ w'.cell? ⟨w.heap.size + 1, 2, none⟩ = some (.int .u8 u) ∧ w'.frozen? ⟨w.heap.size + 1, 2, none⟩ = false ∧ w'.cell? ⟨w.heap.size + 1, 3, none⟩ = some (.int .u8 d) ∧ w'.frozen? ⟨w.heap.size + 1, 3, none⟩ = false ∧ w'.cell? ⟨g5, 0, none⟩ = some (.int .u8 r) ∧ w'.frozen? ⟨g5, 0, none⟩ = false ∧ w'.cell? ⟨g5, 1, none⟩ = some (.int .u8 g) ∧ w'.frozen? ⟨g5, 1, none⟩ = false ∧ w'.cell? ⟨g5, 2, none⟩ = some (.int .u8 b) ∧ w'.frozen? ⟨g5, 2, none⟩ = false ∧ w'.cell? ⟨g5, 3, none⟩ = some (.int .u8 255) ∧ w'.frozen? ⟨g5, 3, none⟩ = false ∧ w'.cell? ⟨g6, 0, none⟩ = some (.int .u8 s) ∧ w'.frozen? ⟨g6, 0, none⟩ = false ∧ w'.cell? ⟨g6, 1, none⟩ = some (.int .u8 t) ∧ w'.frozen? ⟨g6, 1, none⟩ = false ∧ w'.cell? ⟨g6, 2, none⟩ = some (.int .u8 u) ∧ w'.frozen? ⟨g6, 2, none⟩ = false ∧ w'.cell? ⟨g6, 3, none⟩ = some (.int .u8 255) ∧ w'.frozen? ⟨g6, 3, none⟩ = false ∧ w'.cell? ⟨wc.heap.size, 0, none⟩ = some (.int .u8 255) ∧ w'.frozen? ⟨wc.heap.size, 0, none⟩ = false ∧ w'.cell? ⟨wc.heap.size, 1, none⟩ = some (.int .u8 255) ∧ w'.frozen? ⟨wc.heap.size, 1, none⟩ = false ∧ w'.cell? ⟨wc.heap.size, 2, none⟩ = some (.int .u8 255) ∧ w'.frozen? ⟨wc.heap.size, 2, none⟩ = false ∧ w'.cell? ⟨wc.heap.size, 3, none⟩ = some (.int .u8 255) ∧ w'.frozen? ⟨wc.heap.size, 3, none⟩ = false ∧ w'.cell? ⟨wc.heap.size + 1, 0, none⟩ = some (.int .u8 0) ∧ w'.frozen? ⟨wc.heap.size + 1, 0, none⟩ = false ∧ w'.cell? ⟨wc.heap.size + 1, 1, none⟩ = some (.int .u8 0) ∧ w'.frozen? ⟨wc.heap.size + 1, 1, none⟩ = false ∧ w'.cell? ⟨wc.heap.size + 1, 2, none⟩ = some (.int .u8 0) ∧ w'.frozen? ⟨wc.heap.size + 1, 2, none⟩ = false ∧ w'.cell? ⟨wc.heap.size + 1, 3, none⟩ = some (.int .u8 255) ∧ w'.frozen? ⟨wc.heap.size + 1, 3, none⟩ = false ∧ Nm w') (fun W => W.cell? ⟨w.heap.size, 0, none⟩ = some (.int .u8 r) ∧ W.frozen? ⟨w.heap.size, 0, none⟩ = false ∧ W.cell? ⟨w.heap.size, 1, none⟩ = some (.int .u8 g) ∧ W.frozen? ⟨w.heap.size, 1, none⟩ = false ∧ W.cell? ⟨w.heap.size, 2, none⟩ = some (.int .u8 b) ∧ W.frozen? ⟨w.heap.size, 2, none⟩ = false ∧ W.cell? ⟨w.heap.size, 3, none⟩ = some (.int .u8 a) ∧ W.frozen? ⟨w.heap.size, 3, none⟩ = false ∧ W.cell? ⟨w.heap.size + 1, 0, none⟩ = some (.int .u8 s) ∧ W.frozen? ⟨w.heap.size + 1, 0, none⟩ = false ∧ W.cell? ⟨w.heap.size + 1, 1, none⟩ = some (.int .u8 t) ∧ W.frozen? ⟨w.heap.size + 1, 1, none⟩ = false ∧ W.cell? ⟨w.heap.size + 1, 2, none⟩ = some (.int .u8 u) ∧ W.frozen? ⟨w.heap.size + 1, 2, none⟩ = false ∧ W.cell? ⟨w.heap.size + 1, 3, none⟩ = some (.int .u8 d) ∧ W.frozen? ⟨w.heap.size + 1, 3, none⟩ = false ∧ W.cell? ⟨g5, 0, none⟩ = some (.int .u8 r) ∧ W.frozen? ⟨g5, 0, none⟩ = false ∧ W.cell? ⟨g5, 1, none⟩ = some (.int .u8 g) ∧ W.frozen? ⟨g5, 1, none⟩ = false ∧ W.cell? ⟨g5, 2, none⟩ = some (.int .u8 b) ∧ W.frozen? ⟨g5, 2, none⟩ = false ∧ W.cell? ⟨g5, 3, none⟩ = some (.int .u8 255) ∧ W.frozen? ⟨g5, 3, none⟩ = false ∧ W.cell? ⟨g6, 0, none⟩ = some (.int .u8 s) ∧ W.frozen? ⟨g6, 0, none⟩ = false ∧ W.cell? ⟨g6, 1, none⟩ = some (.int .u8 t) ∧ W.frozen? ⟨g6, 1, none⟩ = false ∧ W.cell? ⟨g6, 2, none⟩ = some (.int .u8 u) ∧ W.frozen? ⟨g6, 2, none⟩ = false ∧ W.cell? ⟨g6, 3, none⟩ = some (.int .u8 255) ∧ W.frozen? ⟨g6, 3, none⟩ = false ∧ W.cell? ⟨wc.heap.size, 0, none⟩ = some (.int .u8 255) ∧ W.frozen? ⟨wc.heap.size, 0, none⟩ = false ∧ W.cell? ⟨wc.heap.size, 1, none⟩ = some (.int .u8 255) ∧ W.frozen? ⟨wc.heap.size, 1, none⟩ = false ∧ W.cell? ⟨wc.heap.size, 2, none⟩ = some (.int .u8 255) ∧ W.frozen? ⟨wc.heap.size, 2, none⟩ = false ∧ W.cell? ⟨wc.heap.size, 3, none⟩ = some (.int .u8 255) ∧ W.frozen? ⟨wc.heap.size, 3, none⟩ = false ∧ W.cell? ⟨wc.heap.size + 1, 0, none⟩ = some (.int .u8 0) ∧ W.frozen? ⟨wc.heap.size + 1, 0, none⟩ = false ∧ W.cell? ⟨wc.heap.size + 1, 1, none⟩ = some (.int .u8 0) ∧ W.frozen? ⟨wc.heap.size + 1, 1, none⟩ = false ∧ W.cell? ⟨wc.heap.size + 1, 2, none⟩ = some (.int .u8 0) ∧ W.frozen? ⟨wc.heap.size + 1, 2, none⟩ = false ∧ W.cell? ⟨wc.heap.size + 1, 3, none⟩ = some (.int .u8 255) ∧ W.frozen? ⟨wc.heap.size + 1, 3, none⟩ = false ∧ Nm W ∧ Below w.heap.size w W ∧ w.heap.size + 1 + 1 ≤ W.heap.size) 37 51 [.val (.agg #[.int .u8 r, .int .u8 g, .int .u8 b, .int .u8 255]), .val (.agg #[.int .u8 s, .int .u8 t, .int .u8 u, .int .u8 255]), .call 23 #[.int .i64 1, .agg #[.int .u8 r, .int .u8 g, .int .u8 b, .int .u8 255], .agg #[.int .u8 s, .int .u8 t, .int .u8 u, .int .u8 255]] (.agg #[.int .u8 r, .int .u8 g, .int .u8 b, .int .u8 255]), .val (.agg #[.int .u8 r, .int .u8 g, .int .u8 b, .int .u8 255]), .val (.bool true), .val (.bool true), .val (.agg #[.int .u8 255, .int .u8 255, .int .u8 255, .int .u8 255]), .val (.agg #[.int .u8 s, .int .u8 t, .int .u8 u, .int .u8 255]), .call 23 #[.int .i64 2, .agg #[.int .u8 255, .int .u8 255, .int .u8 255, .int .u8 255], .agg #[.int .u8 s, .int .u8 t, .int .u8 u, .int .u8 255]] (.agg #[.int .u8 s, .int .u8 t, .int .u8 u, .int .u8 255]), .val (.agg #[.int .u8 s, .int .u8 t, .int .u8 u, .int .u8 255]), .val (.bool true), .val (.bool true), .val (.bool true), .val (.agg #[.int .u8 0, .int .u8 0, .int .u8 0, .int .u8 255]), .val (.agg #[.int .u8 s, .int .u8 t, .int .u8 u, .int .u8 255]), .call 23 #[.int .i64 3, .agg #[.int .u8 0, .int .u8 0, .int .u8 0, .int .u8 255], .agg #[.int .u8 s, .int .u8 t, .int .u8 u, .int .u8 255]] (.agg #[.int .u8 s, .int .u8 t, .int .u8 u, .int .u8 255]), .val (.agg #[.int .u8 s, .int .u8 t, .int .u8 u, .int .u8 255]), .val (.bool true), .val (.bool true), .val (.bool true), .val (.agg #[.int .u8 0, .int .u8 0, .int .u8 0, .int .u8 255]), .val (.agg #[.int .u8 s, .int .u8 t, .int .u8 u, .int .u8 255]), .call 23 #[.int .i64 7, .agg #[.int .u8 0, .int .u8 0, .int .u8 0, .int .u8 255], .agg #[.int .u8 s, .int .u8 t, .int .u8 u, .int .u8 255]] (.agg #[.int .u8 s, .int .u8 t, .int .u8 u, .int .u8 255]), .val (.agg #[.int .u8 s, .int .u8 t, .int .u8 u, .int .u8 255]), .val (.bool true), .val (.bool true), .val (.bool true), .val (.agg #[.int .u8 s, .int .u8 t, .int .u8 u, .int .u8 255]), .val (.agg #[.int .u8 s, .int .u8 t, .int .u8 u, .int .u8 255]), .call 23 #[.int .i64 7, .agg #[.int .u8 s, .int .u8 t, .int .u8 u, .int .u8 255], .agg #[.int .u8 s, .int .u8 t, .int .u8 u, .int .u8 255]] (.agg #[.int .u8 0, .int .u8 0, .int .u8 0, .int .u8 255]), .val (.agg #[.int .u8 0, .int .u8 0, .int .u8 0, .int .u8 255]), .val (.bool true), .val (.bool true), .val (.bool true), .call 20 #[] (.bool true), .val (.bool true), .val (.bool true)] (by kernel_rfl) (by kernel_rfl) rfl (by kernel_rfl) (by rintro w1 w2 ⟨h0, h1, h2, h3, h4, h5, h6, h7, h8, h9, h10, h11, h12, h13, h14, h15, h16, h17, h18, h19, h20, h21, h22, h23, h24, h25, h26, h27, h28, h29, h30, h31, h32, h33, h34, h35, h36, h37, h38, h39, h40, h41, h42, h43, h44, h45, h46, h47, h48⟩ hb; exact ⟨bcs hb h0, bfs hb h0 h1, bcs hb h2, bfs hb h2 h3, bcs hb h4, bfs hb h4 h5, bcs hb h6, bfs hb h6 h7, bcs hb h8, bfs hb h8 h9, bcs hb h10, bfs hb h10 h11, bcs hb h12, bfs hb h12 h13, bcs hb h14, bfs hb h14 h15, bcs hb h16, bfs hb h16 h17, bcs hb h18, bfs hb h18 h19, bcs hb h20, bfs hb h20 h21, bcs hb h22, bfs hb h22 h23, bcs hb h24, bfs hb h24 h25, bcs hb h26, bfs hb h26 h27, bcs hb h28, bfs hb h28 h29, bcs hb h30, bfs hb h30 h31, bcs hb h32, bfs hb h32 h33, bcs hb h34, bfs hb h34 h35, bcs hb h36, bfs hb h36 h37, bcs hb h38, bfs hb h38 h39, bcs hb h40, bfs hb h40 h41, bcs hb h42, bfs hb h42 h43, bcs hb h44, bfs hb h44 h45, bcs hb h46, bfs hb h46 h47, Nm.below h48 hb⟩) ⟨by first | with_reducible assumption | go_simp, by first | with_reducible assumption | go_simp, by first | with_reducible assumption | go_simp, by first | with_reducible assumption | go_simp, by first | with_reducible assumption | go_simp, by first | with_reducible assumption | go_simp, by first | with_reducible assumption | go_simp, by first | with_reducible assumption | go_simp, by first | with_reducible assumption | go_simp, by first | with_reducible assumption | go_simp, by first | with_reducible assumption | go_simp, by first | with_reducible assumption | go_simp, by first | with_reducible assumption | go_simp, by first | with_reducible assumption | go_simp, by first | with_reducible assumption | go_simp, by first | with_reducible assumption | go_simp, by first | with_reducible assumption | go_simp, by first | with_reducible assumption | go_simp, by first | with_reducible assumption | go_simp, by first | with_reducible assumption | go_simp, by first | with_reducible assumption | go_simp, by first | with_reducible assumption | go_simp, by first | with_reducible assumption | go_simp, by first | with_reducible assumption | go_simp, by first | with_reducible assumption | go_simp, by first | with_reducible assumption | go_simp, by first | with_reducible assumption | go_simp, by first | with_reducible assumption | go_simp, by first | with_reducible assumption | go_simp, by first | with_reducible assumption | go_simp, by first | with_reducible assumption | go_simp, by first | with_reducible assumption | go_simp, by first | with_reducible assumption | go_simp, by first | with_reducible assumption | go_simp, by first | with_reducible assumption | go_simp, by first | with_reducible assumption | go_simp, by first | with_reducible assumption | go_simp, by first | with_reducible assumption | go_simp, by first | with_reducible assumption | go_simp, by first | with_reducible assumption | go_simp, by first | with_reducible assumption | go_simp, by first | with_reducible assumption | go_simp, by first | with_reducible assumption | go_simp, by first | with_reducible assumption | go_simp, by first | with_reducible assumption | go_simp, by first | with_reducible assumption | go_simp, by first | with_reducible assumption | go_simp, by first | with_reducible assumption | go_simp, Nm.below hN (by repeat (first | with_reducible exact Below.refl _ _ | with_reducible exact B1 | with_reducible apply below_drewN | with_reducible apply Below.drew | (with_reducible refine Below.alloc ?_ (by first | (simp; done) | (simp; omega) | omega) _) | (with_reducible refine Below.setCell ?_ (by first | (simp; done) | (simp; omega) | omega) _))), by repeat (first | with_reducible exact Below.refl _ _ | with_reducible exact B1 | with_reducible apply below_drewN | with_reducible apply Below.drew | (with_reducible refine Below.alloc ?_ (by first | (simp; done) | (simp; omega) | omega) _) | (with_reducible refine Below.setCell ?_ (by first | (simp; done) | (simp; omega) | omega) _)), by first | with_reducible assumption | (simp; done) | (simp; omega)⟩ ?_ ?_
    · rintro W ⟨k2_b2_0, g2_b2_0, k2_b2_1, g2_b2_1, k2_b2_2, g2_b2_2, k2_b2_3, g2_b2_3, k2_b3_0, g2_b3_0, k2_b3_1, g2_b3_1, k2_b3_2, g2_b3_2, k2_b3_3, g2_b3_3, k2_g5_0, g2_g5_0, k2_g5_1, g2_g5_1, k2_g5_2, g2_g5_2, k2_g5_3, g2_g5_3, k2_g6_0, g2_g6_0, k2_g6_1, g2_g6_1, k2_g6_2, g2_g6_2, k2_g6_3, g2_g6_3, k2_g7_0, g2_g7_0, k2_g7_1, g2_g7_1, k2_g7_2, g2_g7_2, k2_g7_3, g2_g7_3, k2_g8_0, g2_g8_0, k2_g8_1, g2_g8_1, k2_g8_2, g2_g8_2, k2_g8_3, g2_g8_3, e2_0, B2, z2⟩; exact ⟨k2_b2_0, g2_b2_0, k2_b2_1, g2_b2_1, k2_b2_2, g2_b2_2, k2_b2_3, g2_b2_3, k2_b3_0, g2_b3_0, k2_b3_1, g2_b3_1, k2_b3_2, g2_b3_2, k2_b3_3, g2_b3_3, k2_g5_0, g2_g5_0, k2_g5_1, g2_g5_1, k2_g5_2, g2_g5_2, k2_g5_3, g2_g5_3, k2_g6_0, g2_g6_0, k2_g6_1, g2_g6_1, k2_g6_2, g2_g6_2, k2_g6_3, g2_g6_3, k2_g7_0, g2_g7_0, k2_g7_1, g2_g7_1, k2_g7_2, g2_g7_2, k2_g7_3, g2_g7_3, k2_g8_0, g2_g8_0, k2_g8_1, g2_g8_1, k2_g8_2, g2_g8_2, k2_g8_3, g2_g8_3, e2_0⟩
    (try clear B1)
    (try clear z1)
    (try clear k1_b2_0)
    (try clear g1_b2_0)
    (try clear k1_b2_1)
    (try clear g1_b2_1)
    (try clear k1_b2_2)
    (try clear g1_b2_2)
    (try clear k1_b2_3)
    (try clear g1_b2_3)
    (try clear k1_b3_0)
    (try clear g1_b3_0)
    (try clear k1_b3_1)
    (try clear g1_b3_1)
    (try clear k1_b3_2)
    (try clear g1_b3_2)
    (try clear k1_b3_3)
    (try clear g1_b3_3)
    (try clear k1_g5_0)
    (try clear g1_g5_0)
    (try clear k1_g5_1)
    (try clear g1_g5_1)
    (try clear k1_g5_2)
    (try clear g1_g5_2)
    (try clear k1_g5_3)
    (try clear g1_g5_3)
    (try clear k1_g6_0)
    (try clear g1_g6_0)
    (try clear k1_g6_1)
    (try clear g1_g6_1)
    (try clear k1_g6_2)
    (try clear g1_g6_2)
    (try clear k1_g6_3)
    (try clear g1_g6_3)
    (try clear k1_g7_0)
    (try clear g1_g7_0)
    (try clear k1_g7_1)
    (try clear g1_g7_1)
    (try clear k1_g7_2)
    (try clear g1_g7_2)
    (try clear k1_g7_3)
    (try clear g1_g7_3)
    (try clear k1_g8_0)
    (try clear g1_g8_0)
    (try clear k1_g8_1)
    (try clear g1_g8_1)
    (try clear k1_g8_2)
    (try clear g1_g8_2)
    (try clear k1_g8_3)
    (try clear g1_g8_3)
    (try clear e1_0)
    (try clear q1_b2)
    (try clear x1_b2)
    (try clear y1_b2)
    (try clear q1_b3)
    (try clear x1_b3)
    (try clear y1_b3)
    (try clear q1_g5)
    (try clear x1_g5)
    (try clear y1_g5)
    (try clear q1_g6)
    (try clear x1_g6)
    (try clear y1_g6)
    (try clear q1_g7)
    (try clear x1_g7)
    (try clear y1_g7)
    (try clear q1_g8)
    (try clear x1_g8)
    (try clear y1_g8)
    rintro w2 ⟨k2_b2_0, g2_b2_0, k2_b2_1, g2_b2_1, k2_b2_2, g2_b2_2, k2_b2_3, g2_b2_3, k2_b3_0, g2_b3_0, k2_b3_1, g2_b3_1, k2_b3_2, g2_b3_2, k2_b3_3, g2_b3_3, k2_g5_0, g2_g5_0, k2_g5_1, g2_g5_1, k2_g5_2, g2_g5_2, k2_g5_3, g2_g5_3, k2_g6_0, g2_g6_0, k2_g6_1, g2_g6_1, k2_g6_2, g2_g6_2, k2_g6_3, g2_g6_3, k2_g7_0, g2_g7_0, k2_g7_1, g2_g7_1, k2_g7_2, g2_g7_2, k2_g7_3, g2_g7_3, k2_g8_0, g2_g8_0, k2_g8_1, g2_g8_1, k2_g8_2, g2_g8_2, k2_g8_3, g2_g8_3, e2_0, B2, z2⟩ gg
    simp only [List.take_succ_cons, List.take_zero, List.drop_succ_cons, List.drop_zero, List.cons_append, List.nil_append, List.append_nil]
    refine obe_val (by rfl) ?_ ?_
    · clear k2_b2_0 g2_b2_0 k2_b2_1 g2_b2_1 k2_b2_2 g2_b2_2 k2_b2_3 g2_b2_3 k2_b3_0 g2_b3_0 k2_b3_1 g2_b3_1 k2_b3_2 g2_b3_2 k2_b3_3 g2_b3_3 k2_g5_0 g2_g5_0 k2_g5_1 g2_g5_1 k2_g5_2 g2_g5_2 k2_g5_3 g2_g5_3 k2_g6_0 g2_g6_0 k2_g6_1 g2_g6_1 k2_g6_2 g2_g6_2 k2_g6_3 g2_g6_3 k2_g7_0 g2_g7_0 k2_g7_1 g2_g7_1 k2_g7_2 g2_g7_2 k2_g7_3 g2_g7_3 k2_g8_0 g2_g8_0 k2_g8_1 g2_g8_1 k2_g8_2 g2_g8_2 k2_g8_3 g2_g8_3 e2_0 B2 z2; intro f hf; have u5 : f 5 = (.pointer (some ⟨g5, 0, none⟩)) := (by rw [← hf]; rfl); clear hf; rintro w' ⟨h0, h1, h2, h3, h4, h5, h6, h7, h8, h9, h10, h11, h12, h13, h14, h15, h16, h17, h18, h19, h20, h21, h22, h23, h24, h25, h26, h27, h28, h29, h30, h31, h32, h33, h34, h35, h36, h37, h38, h39, h40, h41, h42, h43, h44, h45, h46, h47, h48⟩; go_simp; try exact IntWalk.i64_in _ (by omega)
    refine obe_val (by rfl) ?_ ?_
    · clear k2_b2_0 g2_b2_0 k2_b2_1 g2_b2_1 k2_b2_2 g2_b2_2 k2_b2_3 g2_b2_3 k2_b3_0 g2_b3_0 k2_b3_1 g2_b3_1 k2_b3_2 g2_b3_2 k2_b3_3 g2_b3_3 k2_g5_0 g2_g5_0 k2_g5_1 g2_g5_1 k2_g5_2 g2_g5_2 k2_g5_3 g2_g5_3 k2_g6_0 g2_g6_0 k2_g6_1 g2_g6_1 k2_g6_2 g2_g6_2 k2_g6_3 g2_g6_3 k2_g7_0 g2_g7_0 k2_g7_1 g2_g7_1 k2_g7_2 g2_g7_2 k2_g7_3 g2_g7_3 k2_g8_0 g2_g8_0 k2_g8_1 g2_g8_1 k2_g8_2 g2_g8_2 k2_g8_3 g2_g8_3 e2_0 B2 z2; intro f hf; have u6 : f 6 = (.pointer (some ⟨g6, 0, none⟩)) := (by rw [← hf]; rfl); clear hf; rintro w' ⟨h0, h1, h2, h3, h4, h5, h6, h7, h8, h9, h10, h11, h12, h13, h14, h15, h16, h17, h18, h19, h20, h21, h22, h23, h24, h25, h26, h27, h28, h29, h30, h31, h32, h33, h34, h35, h36, h37, h38, h39, h40, h41, h42, h43, h44, h45, h46, h47, h48⟩; go_simp; try exact IntWalk.i64_in _ (by omega)
    refine obe_call (by rfl) ?_ ?_ ?_
    · clear k2_b2_0 g2_b2_0 k2_b2_1 g2_b2_1 k2_b2_2 g2_b2_2 k2_b2_3 g2_b2_3 k2_b3_0 g2_b3_0 k2_b3_1 g2_b3_1 k2_b3_2 g2_b3_2 k2_b3_3 g2_b3_3 k2_g5_0 g2_g5_0 k2_g5_1 g2_g5_1 k2_g5_2 g2_g5_2 k2_g5_3 g2_g5_3 k2_g6_0 g2_g6_0 k2_g6_1 g2_g6_1 k2_g6_2 g2_g6_2 k2_g6_3 g2_g6_3 k2_g7_0 g2_g7_0 k2_g7_1 g2_g7_1 k2_g7_2 g2_g7_2 k2_g7_3 g2_g7_3 k2_g8_0 g2_g8_0 k2_g8_1 g2_g8_1 k2_g8_2 g2_g8_2 k2_g8_3 g2_g8_3 e2_0 B2 z2; intro f hf; have u15 : f 15 = (.agg #[.int .u8 r, .int .u8 g, .int .u8 b, .int .u8 255]) := (by rw [← hf]; rfl); have u16 : f 16 = (.agg #[.int .u8 s, .int .u8 t, .int .u8 u, .int .u8 255]) := (by rw [← hf]; rfl); clear hf; intro w' _; simp only [execOp, resolve, invoke, rhoF_tmp, rhoF_func, rhoF_const, u15, u16, List.map_toArray, List.map_cons, List.map_nil]; go_simp
    · clear k2_b2_0 g2_b2_0 k2_b2_1 g2_b2_1 k2_b2_2 g2_b2_2 k2_b2_3 g2_b2_3 k2_b3_0 g2_b3_0 k2_b3_1 g2_b3_1 k2_b3_2 g2_b3_2 k2_b3_3 g2_b3_3 k2_g5_0 g2_g5_0 k2_g5_1 g2_g5_1 k2_g5_2 g2_g5_2 k2_g5_3 g2_g5_3 k2_g6_0 g2_g6_0 k2_g6_1 g2_g6_1 k2_g6_2 g2_g6_2 k2_g6_3 g2_g6_3 k2_g7_0 g2_g7_0 k2_g7_1 g2_g7_1 k2_g7_2 g2_g7_2 k2_g7_3 g2_g7_3 k2_g8_0 g2_g8_0 k2_g8_1 g2_g8_1 k2_g8_2 g2_g8_2 k2_g8_3 g2_g8_3 e2_0 B2 z2; rintro w' ⟨h0, h1, h2, h3, h4, h5, h6, h7, h8, h9, h10, h11, h12, h13, h14, h15, h16, h17, h18, h19, h20, h21, h22, h23, h24, h25, h26, h27, h28, h29, h30, h31, h32, h33, h34, h35, h36, h37, h38, h39, h40, h41, h42, h43, h44, h45, h46, h47, h48⟩; exact c1 _
    refine obe_val (by rfl) ?_ ?_
    · clear k2_b2_0 g2_b2_0 k2_b2_1 g2_b2_1 k2_b2_2 g2_b2_2 k2_b2_3 g2_b2_3 k2_b3_0 g2_b3_0 k2_b3_1 g2_b3_1 k2_b3_2 g2_b3_2 k2_b3_3 g2_b3_3 k2_g5_0 g2_g5_0 k2_g5_1 g2_g5_1 k2_g5_2 g2_g5_2 k2_g5_3 g2_g5_3 k2_g6_0 g2_g6_0 k2_g6_1 g2_g6_1 k2_g6_2 g2_g6_2 k2_g6_3 g2_g6_3 k2_g7_0 g2_g7_0 k2_g7_1 g2_g7_1 k2_g7_2 g2_g7_2 k2_g7_3 g2_g7_3 k2_g8_0 g2_g8_0 k2_g8_1 g2_g8_1 k2_g8_2 g2_g8_2 k2_g8_3 g2_g8_3 e2_0 B2 z2; intro f hf; have u5 : f 5 = (.pointer (some ⟨g5, 0, none⟩)) := (by rw [← hf]; rfl); clear hf; rintro w' ⟨h0, h1, h2, h3, h4, h5, h6, h7, h8, h9, h10, h11, h12, h13, h14, h15, h16, h17, h18, h19, h20, h21, h22, h23, h24, h25, h26, h27, h28, h29, h30, h31, h32, h33, h34, h35, h36, h37, h38, h39, h40, h41, h42, h43, h44, h45, h46, h47, h48⟩; go_simp; try exact IntWalk.i64_in _ (by omega)
    refine obe_val (by rfl) ?_ ?_
    · clear k2_b2_0 g2_b2_0 k2_b2_1 g2_b2_1 k2_b2_2 g2_b2_2 k2_b2_3 g2_b2_3 k2_b3_0 g2_b3_0 k2_b3_1 g2_b3_1 k2_b3_2 g2_b3_2 k2_b3_3 g2_b3_3 k2_g5_0 g2_g5_0 k2_g5_1 g2_g5_1 k2_g5_2 g2_g5_2 k2_g5_3 g2_g5_3 k2_g6_0 g2_g6_0 k2_g6_1 g2_g6_1 k2_g6_2 g2_g6_2 k2_g6_3 g2_g6_3 k2_g7_0 g2_g7_0 k2_g7_1 g2_g7_1 k2_g7_2 g2_g7_2 k2_g7_3 g2_g7_3 k2_g8_0 g2_g8_0 k2_g8_1 g2_g8_1 k2_g8_2 g2_g8_2 k2_g8_3 g2_g8_3 e2_0 B2 z2; intro f hf; have u17 : f 17 = (.agg #[.int .u8 r, .int .u8 g, .int .u8 b, .int .u8 255]) := (by rw [← hf]; rfl); have u18 : f 18 = (.agg #[.int .u8 r, .int .u8 g, .int .u8 b, .int .u8 255]) := (by rw [← hf]; rfl); clear hf; rintro w' ⟨h0, h1, h2, h3, h4, h5, h6, h7, h8, h9, h10, h11, h12, h13, h14, h15, h16, h17, h18, h19, h20, h21, h22, h23, h24, h25, h26, h27, h28, h29, h30, h31, h32, h33, h34, h35, h36, h37, h38, h39, h40, h41, h42, h43, h44, h45, h46, h47, h48⟩; go_simp; try exact IntWalk.i64_in _ (by omega)
    refine obe_val (by rfl) ?_ ?_
    · clear k2_b2_0 g2_b2_0 k2_b2_1 g2_b2_1 k2_b2_2 g2_b2_2 k2_b2_3 g2_b2_3 k2_b3_0 g2_b3_0 k2_b3_1 g2_b3_1 k2_b3_2 g2_b3_2 k2_b3_3 g2_b3_3 k2_g5_0 g2_g5_0 k2_g5_1 g2_g5_1 k2_g5_2 g2_g5_2 k2_g5_3 g2_g5_3 k2_g6_0 g2_g6_0 k2_g6_1 g2_g6_1 k2_g6_2 g2_g6_2 k2_g6_3 g2_g6_3 k2_g7_0 g2_g7_0 k2_g7_1 g2_g7_1 k2_g7_2 g2_g7_2 k2_g7_3 g2_g7_3 k2_g8_0 g2_g8_0 k2_g8_1 g2_g8_1 k2_g8_2 g2_g8_2 k2_g8_3 g2_g8_3 e2_0 B2 z2; intro f hf; have u19 : f 19 = (.bool true) := (by rw [← hf]; rfl); clear hf; rintro w' ⟨h0, h1, h2, h3, h4, h5, h6, h7, h8, h9, h10, h11, h12, h13, h14, h15, h16, h17, h18, h19, h20, h21, h22, h23, h24, h25, h26, h27, h28, h29, h30, h31, h32, h33, h34, h35, h36, h37, h38, h39, h40, h41, h42, h43, h44, h45, h46, h47, h48⟩; go_simp; try exact IntWalk.i64_in _ (by omega)
    refine obe_val (by rfl) ?_ ?_
    · clear k2_b2_0 g2_b2_0 k2_b2_1 g2_b2_1 k2_b2_2 g2_b2_2 k2_b2_3 g2_b2_3 k2_b3_0 g2_b3_0 k2_b3_1 g2_b3_1 k2_b3_2 g2_b3_2 k2_b3_3 g2_b3_3 k2_g5_0 g2_g5_0 k2_g5_1 g2_g5_1 k2_g5_2 g2_g5_2 k2_g5_3 g2_g5_3 k2_g6_0 g2_g6_0 k2_g6_1 g2_g6_1 k2_g6_2 g2_g6_2 k2_g6_3 g2_g6_3 k2_g7_0 g2_g7_0 k2_g7_1 g2_g7_1 k2_g7_2 g2_g7_2 k2_g7_3 g2_g7_3 k2_g8_0 g2_g8_0 k2_g8_1 g2_g8_1 k2_g8_2 g2_g8_2 k2_g8_3 g2_g8_3 e2_0 B2 z2; intro f hf; have u7 : f 7 = (.pointer (some ⟨wc.heap.size, 0, none⟩)) := (by rw [← hf]; rfl); clear hf; rintro w' ⟨h0, h1, h2, h3, h4, h5, h6, h7, h8, h9, h10, h11, h12, h13, h14, h15, h16, h17, h18, h19, h20, h21, h22, h23, h24, h25, h26, h27, h28, h29, h30, h31, h32, h33, h34, h35, h36, h37, h38, h39, h40, h41, h42, h43, h44, h45, h46, h47, h48⟩; go_simp; try exact IntWalk.i64_in _ (by omega)
    refine obe_val (by rfl) ?_ ?_
    · clear k2_b2_0 g2_b2_0 k2_b2_1 g2_b2_1 k2_b2_2 g2_b2_2 k2_b2_3 g2_b2_3 k2_b3_0 g2_b3_0 k2_b3_1 g2_b3_1 k2_b3_2 g2_b3_2 k2_b3_3 g2_b3_3 k2_g5_0 g2_g5_0 k2_g5_1 g2_g5_1 k2_g5_2 g2_g5_2 k2_g5_3 g2_g5_3 k2_g6_0 g2_g6_0 k2_g6_1 g2_g6_1 k2_g6_2 g2_g6_2 k2_g6_3 g2_g6_3 k2_g7_0 g2_g7_0 k2_g7_1 g2_g7_1 k2_g7_2 g2_g7_2 k2_g7_3 g2_g7_3 k2_g8_0 g2_g8_0 k2_g8_1 g2_g8_1 k2_g8_2 g2_g8_2 k2_g8_3 g2_g8_3 e2_0 B2 z2; intro f hf; have u6 : f 6 = (.pointer (some ⟨g6, 0, none⟩)) := (by rw [← hf]; rfl); clear hf; rintro w' ⟨h0, h1, h2, h3, h4, h5, h6, h7, h8, h9, h10, h11, h12, h13, h14, h15, h16, h17, h18, h19, h20, h21, h22, h23, h24, h25, h26, h27, h28, h29, h30, h31, h32, h33, h34, h35, h36, h37, h38, h39, h40, h41, h42, h43, h44, h45, h46, h47, h48⟩; go_simp; try exact IntWalk.i64_in _ (by omega)
    refine obe_call (by rfl) ?_ ?_ ?_
    · clear k2_b2_0 g2_b2_0 k2_b2_1 g2_b2_1 k2_b2_2 g2_b2_2 k2_b2_3 g2_b2_3 k2_b3_0 g2_b3_0 k2_b3_1 g2_b3_1 k2_b3_2 g2_b3_2 k2_b3_3 g2_b3_3 k2_g5_0 g2_g5_0 k2_g5_1 g2_g5_1 k2_g5_2 g2_g5_2 k2_g5_3 g2_g5_3 k2_g6_0 g2_g6_0 k2_g6_1 g2_g6_1 k2_g6_2 g2_g6_2 k2_g6_3 g2_g6_3 k2_g7_0 g2_g7_0 k2_g7_1 g2_g7_1 k2_g7_2 g2_g7_2 k2_g7_3 g2_g7_3 k2_g8_0 g2_g8_0 k2_g8_1 g2_g8_1 k2_g8_2 g2_g8_2 k2_g8_3 g2_g8_3 e2_0 B2 z2; intro f hf; have u21 : f 21 = (.agg #[.int .u8 255, .int .u8 255, .int .u8 255, .int .u8 255]) := (by rw [← hf]; rfl); have u22 : f 22 = (.agg #[.int .u8 s, .int .u8 t, .int .u8 u, .int .u8 255]) := (by rw [← hf]; rfl); clear hf; intro w' _; simp only [execOp, resolve, invoke, rhoF_tmp, rhoF_func, rhoF_const, u21, u22, List.map_toArray, List.map_cons, List.map_nil]; go_simp
    · clear k2_b2_0 g2_b2_0 k2_b2_1 g2_b2_1 k2_b2_2 g2_b2_2 k2_b2_3 g2_b2_3 k2_b3_0 g2_b3_0 k2_b3_1 g2_b3_1 k2_b3_2 g2_b3_2 k2_b3_3 g2_b3_3 k2_g5_0 g2_g5_0 k2_g5_1 g2_g5_1 k2_g5_2 g2_g5_2 k2_g5_3 g2_g5_3 k2_g6_0 g2_g6_0 k2_g6_1 g2_g6_1 k2_g6_2 g2_g6_2 k2_g6_3 g2_g6_3 k2_g7_0 g2_g7_0 k2_g7_1 g2_g7_1 k2_g7_2 g2_g7_2 k2_g7_3 g2_g7_3 k2_g8_0 g2_g8_0 k2_g8_1 g2_g8_1 k2_g8_2 g2_g8_2 k2_g8_3 g2_g8_3 e2_0 B2 z2; rintro w' ⟨h0, h1, h2, h3, h4, h5, h6, h7, h8, h9, h10, h11, h12, h13, h14, h15, h16, h17, h18, h19, h20, h21, h22, h23, h24, h25, h26, h27, h28, h29, h30, h31, h32, h33, h34, h35, h36, h37, h38, h39, h40, h41, h42, h43, h44, h45, h46, h47, h48⟩; exact c2 _
    refine obe_val (by rfl) ?_ ?_
    · clear k2_b2_0 g2_b2_0 k2_b2_1 g2_b2_1 k2_b2_2 g2_b2_2 k2_b2_3 g2_b2_3 k2_b3_0 g2_b3_0 k2_b3_1 g2_b3_1 k2_b3_2 g2_b3_2 k2_b3_3 g2_b3_3 k2_g5_0 g2_g5_0 k2_g5_1 g2_g5_1 k2_g5_2 g2_g5_2 k2_g5_3 g2_g5_3 k2_g6_0 g2_g6_0 k2_g6_1 g2_g6_1 k2_g6_2 g2_g6_2 k2_g6_3 g2_g6_3 k2_g7_0 g2_g7_0 k2_g7_1 g2_g7_1 k2_g7_2 g2_g7_2 k2_g7_3 g2_g7_3 k2_g8_0 g2_g8_0 k2_g8_1 g2_g8_1 k2_g8_2 g2_g8_2 k2_g8_3 g2_g8_3 e2_0 B2 z2; intro f hf; have u6 : f 6 = (.pointer (some ⟨g6, 0, none⟩)) := (by rw [← hf]; rfl); clear hf; rintro w' ⟨h0, h1, h2, h3, h4, h5, h6, h7, h8, h9, h10, h11, h12, h13, h14, h15, h16, h17, h18, h19, h20, h21, h22, h23, h24, h25, h26, h27, h28, h29, h30, h31, h32, h33, h34, h35, h36, h37, h38, h39, h40, h41, h42, h43, h44, h45, h46, h47, h48⟩; go_simp; try exact IntWalk.i64_in _ (by omega)
    refine obe_val (by rfl) ?_ ?_
    · clear k2_b2_0 g2_b2_0 k2_b2_1 g2_b2_1 k2_b2_2 g2_b2_2 k2_b2_3 g2_b2_3 k2_b3_0 g2_b3_0 k2_b3_1 g2_b3_1 k2_b3_2 g2_b3_2 k2_b3_3 g2_b3_3 k2_g5_0 g2_g5_0 k2_g5_1 g2_g5_1 k2_g5_2 g2_g5_2 k2_g5_3 g2_g5_3 k2_g6_0 g2_g6_0 k2_g6_1 g2_g6_1 k2_g6_2 g2_g6_2 k2_g6_3 g2_g6_3 k2_g7_0 g2_g7_0 k2_g7_1 g2_g7_1 k2_g7_2 g2_g7_2 k2_g7_3 g2_g7_3 k2_g8_0 g2_g8_0 k2_g8_1 g2_g8_1 k2_g8_2 g2_g8_2 k2_g8_3 g2_g8_3 e2_0 B2 z2; intro f hf; have u23 : f 23 = (.agg #[.int .u8 s, .int .u8 t, .int .u8 u, .int .u8 255]) := (by rw [← hf]; rfl); have u24 : f 24 = (.agg #[.int .u8 s, .int .u8 t, .int .u8 u, .int .u8 255]) := (by rw [← hf]; rfl); clear hf; rintro w' ⟨h0, h1, h2, h3, h4, h5, h6, h7, h8, h9, h10, h11, h12, h13, h14, h15, h16, h17, h18, h19, h20, h21, h22, h23, h24, h25, h26, h27, h28, h29, h30, h31, h32, h33, h34, h35, h36, h37, h38, h39, h40, h41, h42, h43, h44, h45, h46, h47, h48⟩; go_simp; try exact IntWalk.i64_in _ (by omega)
    refine obe_val (by rfl) ?_ ?_
    · clear k2_b2_0 g2_b2_0 k2_b2_1 g2_b2_1 k2_b2_2 g2_b2_2 k2_b2_3 g2_b2_3 k2_b3_0 g2_b3_0 k2_b3_1 g2_b3_1 k2_b3_2 g2_b3_2 k2_b3_3 g2_b3_3 k2_g5_0 g2_g5_0 k2_g5_1 g2_g5_1 k2_g5_2 g2_g5_2 k2_g5_3 g2_g5_3 k2_g6_0 g2_g6_0 k2_g6_1 g2_g6_1 k2_g6_2 g2_g6_2 k2_g6_3 g2_g6_3 k2_g7_0 g2_g7_0 k2_g7_1 g2_g7_1 k2_g7_2 g2_g7_2 k2_g7_3 g2_g7_3 k2_g8_0 g2_g8_0 k2_g8_1 g2_g8_1 k2_g8_2 g2_g8_2 k2_g8_3 g2_g8_3 e2_0 B2 z2; intro f hf; have u20 : f 20 = (.bool true) := (by rw [← hf]; rfl); have u25 : f 25 = (.bool true) := (by rw [← hf]; rfl); clear hf; rintro w' ⟨h0, h1, h2, h3, h4, h5, h6, h7, h8, h9, h10, h11, h12, h13, h14, h15, h16, h17, h18, h19, h20, h21, h22, h23, h24, h25, h26, h27, h28, h29, h30, h31, h32, h33, h34, h35, h36, h37, h38, h39, h40, h41, h42, h43, h44, h45, h46, h47, h48⟩; go_simp; try exact IntWalk.i64_in _ (by omega)
    refine obe_val (by rfl) ?_ ?_
    · clear k2_b2_0 g2_b2_0 k2_b2_1 g2_b2_1 k2_b2_2 g2_b2_2 k2_b2_3 g2_b2_3 k2_b3_0 g2_b3_0 k2_b3_1 g2_b3_1 k2_b3_2 g2_b3_2 k2_b3_3 g2_b3_3 k2_g5_0 g2_g5_0 k2_g5_1 g2_g5_1 k2_g5_2 g2_g5_2 k2_g5_3 g2_g5_3 k2_g6_0 g2_g6_0 k2_g6_1 g2_g6_1 k2_g6_2 g2_g6_2 k2_g6_3 g2_g6_3 k2_g7_0 g2_g7_0 k2_g7_1 g2_g7_1 k2_g7_2 g2_g7_2 k2_g7_3 g2_g7_3 k2_g8_0 g2_g8_0 k2_g8_1 g2_g8_1 k2_g8_2 g2_g8_2 k2_g8_3 g2_g8_3 e2_0 B2 z2; intro f hf; have u26 : f 26 = (.bool true) := (by rw [← hf]; rfl); clear hf; rintro w' ⟨h0, h1, h2, h3, h4, h5, h6, h7, h8, h9, h10, h11, h12, h13, h14, h15, h16, h17, h18, h19, h20, h21, h22, h23, h24, h25, h26, h27, h28, h29, h30, h31, h32, h33, h34, h35, h36, h37, h38, h39, h40, h41, h42, h43, h44, h45, h46, h47, h48⟩; go_simp; try exact IntWalk.i64_in _ (by omega)
    refine obe_val (by rfl) ?_ ?_
    · clear k2_b2_0 g2_b2_0 k2_b2_1 g2_b2_1 k2_b2_2 g2_b2_2 k2_b2_3 g2_b2_3 k2_b3_0 g2_b3_0 k2_b3_1 g2_b3_1 k2_b3_2 g2_b3_2 k2_b3_3 g2_b3_3 k2_g5_0 g2_g5_0 k2_g5_1 g2_g5_1 k2_g5_2 g2_g5_2 k2_g5_3 g2_g5_3 k2_g6_0 g2_g6_0 k2_g6_1 g2_g6_1 k2_g6_2 g2_g6_2 k2_g6_3 g2_g6_3 k2_g7_0 g2_g7_0 k2_g7_1 g2_g7_1 k2_g7_2 g2_g7_2 k2_g7_3 g2_g7_3 k2_g8_0 g2_g8_0 k2_g8_1 g2_g8_1 k2_g8_2 g2_g8_2 k2_g8_3 g2_g8_3 e2_0 B2 z2; intro f hf; have u8 : f 8 = (.pointer (some ⟨wc.heap.size + 1, 0, none⟩)) := (by rw [← hf]; rfl); clear hf; rintro w' ⟨h0, h1, h2, h3, h4, h5, h6, h7, h8, h9, h10, h11, h12, h13, h14, h15, h16, h17, h18, h19, h20, h21, h22, h23, h24, h25, h26, h27, h28, h29, h30, h31, h32, h33, h34, h35, h36, h37, h38, h39, h40, h41, h42, h43, h44, h45, h46, h47, h48⟩; go_simp; try exact IntWalk.i64_in _ (by omega)
    refine obe_val (by rfl) ?_ ?_
    · clear k2_b2_0 g2_b2_0 k2_b2_1 g2_b2_1 k2_b2_2 g2_b2_2 k2_b2_3 g2_b2_3 k2_b3_0 g2_b3_0 k2_b3_1 g2_b3_1 k2_b3_2 g2_b3_2 k2_b3_3 g2_b3_3 k2_g5_0 g2_g5_0 k2_g5_1 g2_g5_1 k2_g5_2 g2_g5_2 k2_g5_3 g2_g5_3 k2_g6_0 g2_g6_0 k2_g6_1 g2_g6_1 k2_g6_2 g2_g6_2 k2_g6_3 g2_g6_3 k2_g7_0 g2_g7_0 k2_g7_1 g2_g7_1 k2_g7_2 g2_g7_2 k2_g7_3 g2_g7_3 k2_g8_0 g2_g8_0 k2_g8_1 g2_g8_1 k2_g8_2 g2_g8_2 k2_g8_3 g2_g8_3 e2_0 B2 z2; intro f hf; have u6 : f 6 = (.pointer (some ⟨g6, 0, none⟩)) := (by rw [← hf]; rfl); clear hf; rintro w' ⟨h0, h1, h2, h3, h4, h5, h6, h7, h8, h9, h10, h11, h12, h13, h14, h15, h16, h17, h18, h19, h20, h21, h22, h23, h24, h25, h26, h27, h28, h29, h30, h31, h32, h33, h34, h35, h36, h37, h38, h39, h40, h41, h42, h43, h44, h45, h46, h47, h48⟩; go_simp; try exact IntWalk.i64_in _ (by omega)
    refine obe_call (by rfl) ?_ ?_ ?_
    · clear k2_b2_0 g2_b2_0 k2_b2_1 g2_b2_1 k2_b2_2 g2_b2_2 k2_b2_3 g2_b2_3 k2_b3_0 g2_b3_0 k2_b3_1 g2_b3_1 k2_b3_2 g2_b3_2 k2_b3_3 g2_b3_3 k2_g5_0 g2_g5_0 k2_g5_1 g2_g5_1 k2_g5_2 g2_g5_2 k2_g5_3 g2_g5_3 k2_g6_0 g2_g6_0 k2_g6_1 g2_g6_1 k2_g6_2 g2_g6_2 k2_g6_3 g2_g6_3 k2_g7_0 g2_g7_0 k2_g7_1 g2_g7_1 k2_g7_2 g2_g7_2 k2_g7_3 g2_g7_3 k2_g8_0 g2_g8_0 k2_g8_1 g2_g8_1 k2_g8_2 g2_g8_2 k2_g8_3 g2_g8_3 e2_0 B2 z2; intro f hf; have u28 : f 28 = (.agg #[.int .u8 0, .int .u8 0, .int .u8 0, .int .u8 255]) := (by rw [← hf]; rfl); have u29 : f 29 = (.agg #[.int .u8 s, .int .u8 t, .int .u8 u, .int .u8 255]) := (by rw [← hf]; rfl); clear hf; intro w' _; simp only [execOp, resolve, invoke, rhoF_tmp, rhoF_func, rhoF_const, u28, u29, List.map_toArray, List.map_cons, List.map_nil]; go_simp
    · clear k2_b2_0 g2_b2_0 k2_b2_1 g2_b2_1 k2_b2_2 g2_b2_2 k2_b2_3 g2_b2_3 k2_b3_0 g2_b3_0 k2_b3_1 g2_b3_1 k2_b3_2 g2_b3_2 k2_b3_3 g2_b3_3 k2_g5_0 g2_g5_0 k2_g5_1 g2_g5_1 k2_g5_2 g2_g5_2 k2_g5_3 g2_g5_3 k2_g6_0 g2_g6_0 k2_g6_1 g2_g6_1 k2_g6_2 g2_g6_2 k2_g6_3 g2_g6_3 k2_g7_0 g2_g7_0 k2_g7_1 g2_g7_1 k2_g7_2 g2_g7_2 k2_g7_3 g2_g7_3 k2_g8_0 g2_g8_0 k2_g8_1 g2_g8_1 k2_g8_2 g2_g8_2 k2_g8_3 g2_g8_3 e2_0 B2 z2; rintro w' ⟨h0, h1, h2, h3, h4, h5, h6, h7, h8, h9, h10, h11, h12, h13, h14, h15, h16, h17, h18, h19, h20, h21, h22, h23, h24, h25, h26, h27, h28, h29, h30, h31, h32, h33, h34, h35, h36, h37, h38, h39, h40, h41, h42, h43, h44, h45, h46, h47, h48⟩; exact c3 _
    refine obe_val (by rfl) ?_ ?_
    · clear k2_b2_0 g2_b2_0 k2_b2_1 g2_b2_1 k2_b2_2 g2_b2_2 k2_b2_3 g2_b2_3 k2_b3_0 g2_b3_0 k2_b3_1 g2_b3_1 k2_b3_2 g2_b3_2 k2_b3_3 g2_b3_3 k2_g5_0 g2_g5_0 k2_g5_1 g2_g5_1 k2_g5_2 g2_g5_2 k2_g5_3 g2_g5_3 k2_g6_0 g2_g6_0 k2_g6_1 g2_g6_1 k2_g6_2 g2_g6_2 k2_g6_3 g2_g6_3 k2_g7_0 g2_g7_0 k2_g7_1 g2_g7_1 k2_g7_2 g2_g7_2 k2_g7_3 g2_g7_3 k2_g8_0 g2_g8_0 k2_g8_1 g2_g8_1 k2_g8_2 g2_g8_2 k2_g8_3 g2_g8_3 e2_0 B2 z2; intro f hf; have u6 : f 6 = (.pointer (some ⟨g6, 0, none⟩)) := (by rw [← hf]; rfl); clear hf; rintro w' ⟨h0, h1, h2, h3, h4, h5, h6, h7, h8, h9, h10, h11, h12, h13, h14, h15, h16, h17, h18, h19, h20, h21, h22, h23, h24, h25, h26, h27, h28, h29, h30, h31, h32, h33, h34, h35, h36, h37, h38, h39, h40, h41, h42, h43, h44, h45, h46, h47, h48⟩; go_simp; try exact IntWalk.i64_in _ (by omega)
    refine obe_val (by rfl) ?_ ?_
    · clear k2_b2_0 g2_b2_0 k2_b2_1 g2_b2_1 k2_b2_2 g2_b2_2 k2_b2_3 g2_b2_3 k2_b3_0 g2_b3_0 k2_b3_1 g2_b3_1 k2_b3_2 g2_b3_2 k2_b3_3 g2_b3_3 k2_g5_0 g2_g5_0 k2_g5_1 g2_g5_1 k2_g5_2 g2_g5_2 k2_g5_3 g2_g5_3 k2_g6_0 g2_g6_0 k2_g6_1 g2_g6_1 k2_g6_2 g2_g6_2 k2_g6_3 g2_g6_3 k2_g7_0 g2_g7_0 k2_g7_1 g2_g7_1 k2_g7_2 g2_g7_2 k2_g7_3 g2_g7_3 k2_g8_0 g2_g8_0 k2_g8_1 g2_g8_1 k2_g8_2 g2_g8_2 k2_g8_3 g2_g8_3 e2_0 B2 z2; intro f hf; have u30 : f 30 = (.agg #[.int .u8 s, .int .u8 t, .int .u8 u, .int .u8 255]) := (by rw [← hf]; rfl); have u31 : f 31 = (.agg #[.int .u8 s, .int .u8 t, .int .u8 u, .int .u8 255]) := (by rw [← hf]; rfl); clear hf; rintro w' ⟨h0, h1, h2, h3, h4, h5, h6, h7, h8, h9, h10, h11, h12, h13, h14, h15, h16, h17, h18, h19, h20, h21, h22, h23, h24, h25, h26, h27, h28, h29, h30, h31, h32, h33, h34, h35, h36, h37, h38, h39, h40, h41, h42, h43, h44, h45, h46, h47, h48⟩; go_simp; try exact IntWalk.i64_in _ (by omega)
    refine obe_val (by rfl) ?_ ?_
    · clear k2_b2_0 g2_b2_0 k2_b2_1 g2_b2_1 k2_b2_2 g2_b2_2 k2_b2_3 g2_b2_3 k2_b3_0 g2_b3_0 k2_b3_1 g2_b3_1 k2_b3_2 g2_b3_2 k2_b3_3 g2_b3_3 k2_g5_0 g2_g5_0 k2_g5_1 g2_g5_1 k2_g5_2 g2_g5_2 k2_g5_3 g2_g5_3 k2_g6_0 g2_g6_0 k2_g6_1 g2_g6_1 k2_g6_2 g2_g6_2 k2_g6_3 g2_g6_3 k2_g7_0 g2_g7_0 k2_g7_1 g2_g7_1 k2_g7_2 g2_g7_2 k2_g7_3 g2_g7_3 k2_g8_0 g2_g8_0 k2_g8_1 g2_g8_1 k2_g8_2 g2_g8_2 k2_g8_3 g2_g8_3 e2_0 B2 z2; intro f hf; have u27 : f 27 = (.bool true) := (by rw [← hf]; rfl); have u32 : f 32 = (.bool true) := (by rw [← hf]; rfl); clear hf; rintro w' ⟨h0, h1, h2, h3, h4, h5, h6, h7, h8, h9, h10, h11, h12, h13, h14, h15, h16, h17, h18, h19, h20, h21, h22, h23, h24, h25, h26, h27, h28, h29, h30, h31, h32, h33, h34, h35, h36, h37, h38, h39, h40, h41, h42, h43, h44, h45, h46, h47, h48⟩; go_simp; try exact IntWalk.i64_in _ (by omega)
    refine obe_val (by rfl) ?_ ?_
    · clear k2_b2_0 g2_b2_0 k2_b2_1 g2_b2_1 k2_b2_2 g2_b2_2 k2_b2_3 g2_b2_3 k2_b3_0 g2_b3_0 k2_b3_1 g2_b3_1 k2_b3_2 g2_b3_2 k2_b3_3 g2_b3_3 k2_g5_0 g2_g5_0 k2_g5_1 g2_g5_1 k2_g5_2 g2_g5_2 k2_g5_3 g2_g5_3 k2_g6_0 g2_g6_0 k2_g6_1 g2_g6_1 k2_g6_2 g2_g6_2 k2_g6_3 g2_g6_3 k2_g7_0 g2_g7_0 k2_g7_1 g2_g7_1 k2_g7_2 g2_g7_2 k2_g7_3 g2_g7_3 k2_g8_0 g2_g8_0 k2_g8_1 g2_g8_1 k2_g8_2 g2_g8_2 k2_g8_3 g2_g8_3 e2_0 B2 z2; intro f hf; have u33 : f 33 = (.bool true) := (by rw [← hf]; rfl); clear hf; rintro w' ⟨h0, h1, h2, h3, h4, h5, h6, h7, h8, h9, h10, h11, h12, h13, h14, h15, h16, h17, h18, h19, h20, h21, h22, h23, h24, h25, h26, h27, h28, h29, h30, h31, h32, h33, h34, h35, h36, h37, h38, h39, h40, h41, h42, h43, h44, h45, h46, h47, h48⟩; go_simp; try exact IntWalk.i64_in _ (by omega)
    refine obe_val (by rfl) ?_ ?_
    · clear k2_b2_0 g2_b2_0 k2_b2_1 g2_b2_1 k2_b2_2 g2_b2_2 k2_b2_3 g2_b2_3 k2_b3_0 g2_b3_0 k2_b3_1 g2_b3_1 k2_b3_2 g2_b3_2 k2_b3_3 g2_b3_3 k2_g5_0 g2_g5_0 k2_g5_1 g2_g5_1 k2_g5_2 g2_g5_2 k2_g5_3 g2_g5_3 k2_g6_0 g2_g6_0 k2_g6_1 g2_g6_1 k2_g6_2 g2_g6_2 k2_g6_3 g2_g6_3 k2_g7_0 g2_g7_0 k2_g7_1 g2_g7_1 k2_g7_2 g2_g7_2 k2_g7_3 g2_g7_3 k2_g8_0 g2_g8_0 k2_g8_1 g2_g8_1 k2_g8_2 g2_g8_2 k2_g8_3 g2_g8_3 e2_0 B2 z2; intro f hf; have u8 : f 8 = (.pointer (some ⟨wc.heap.size + 1, 0, none⟩)) := (by rw [← hf]; rfl); clear hf; rintro w' ⟨h0, h1, h2, h3, h4, h5, h6, h7, h8, h9, h10, h11, h12, h13, h14, h15, h16, h17, h18, h19, h20, h21, h22, h23, h24, h25, h26, h27, h28, h29, h30, h31, h32, h33, h34, h35, h36, h37, h38, h39, h40, h41, h42, h43, h44, h45, h46, h47, h48⟩; go_simp; try exact IntWalk.i64_in _ (by omega)
    refine obe_val (by rfl) ?_ ?_
    · clear k2_b2_0 g2_b2_0 k2_b2_1 g2_b2_1 k2_b2_2 g2_b2_2 k2_b2_3 g2_b2_3 k2_b3_0 g2_b3_0 k2_b3_1 g2_b3_1 k2_b3_2 g2_b3_2 k2_b3_3 g2_b3_3 k2_g5_0 g2_g5_0 k2_g5_1 g2_g5_1 k2_g5_2 g2_g5_2 k2_g5_3 g2_g5_3 k2_g6_0 g2_g6_0 k2_g6_1 g2_g6_1 k2_g6_2 g2_g6_2 k2_g6_3 g2_g6_3 k2_g7_0 g2_g7_0 k2_g7_1 g2_g7_1 k2_g7_2 g2_g7_2 k2_g7_3 g2_g7_3 k2_g8_0 g2_g8_0 k2_g8_1 g2_g8_1 k2_g8_2 g2_g8_2 k2_g8_3 g2_g8_3 e2_0 B2 z2; intro f hf; have u6 : f 6 = (.pointer (some ⟨g6, 0, none⟩)) := (by rw [← hf]; rfl); clear hf; rintro w' ⟨h0, h1, h2, h3, h4, h5, h6, h7, h8, h9, h10, h11, h12, h13, h14, h15, h16, h17, h18, h19, h20, h21, h22, h23, h24, h25, h26, h27, h28, h29, h30, h31, h32, h33, h34, h35, h36, h37, h38, h39, h40, h41, h42, h43, h44, h45, h46, h47, h48⟩; go_simp; try exact IntWalk.i64_in _ (by omega)
    refine obe_call (by rfl) ?_ ?_ ?_
    · clear k2_b2_0 g2_b2_0 k2_b2_1 g2_b2_1 k2_b2_2 g2_b2_2 k2_b2_3 g2_b2_3 k2_b3_0 g2_b3_0 k2_b3_1 g2_b3_1 k2_b3_2 g2_b3_2 k2_b3_3 g2_b3_3 k2_g5_0 g2_g5_0 k2_g5_1 g2_g5_1 k2_g5_2 g2_g5_2 k2_g5_3 g2_g5_3 k2_g6_0 g2_g6_0 k2_g6_1 g2_g6_1 k2_g6_2 g2_g6_2 k2_g6_3 g2_g6_3 k2_g7_0 g2_g7_0 k2_g7_1 g2_g7_1 k2_g7_2 g2_g7_2 k2_g7_3 g2_g7_3 k2_g8_0 g2_g8_0 k2_g8_1 g2_g8_1 k2_g8_2 g2_g8_2 k2_g8_3 g2_g8_3 e2_0 B2 z2; intro f hf; have u35 : f 35 = (.agg #[.int .u8 0, .int .u8 0, .int .u8 0, .int .u8 255]) := (by rw [← hf]; rfl); have u36 : f 36 = (.agg #[.int .u8 s, .int .u8 t, .int .u8 u, .int .u8 255]) := (by rw [← hf]; rfl); clear hf; intro w' _; simp only [execOp, resolve, invoke, rhoF_tmp, rhoF_func, rhoF_const, u35, u36, List.map_toArray, List.map_cons, List.map_nil]; go_simp
    · clear k2_b2_0 g2_b2_0 k2_b2_1 g2_b2_1 k2_b2_2 g2_b2_2 k2_b2_3 g2_b2_3 k2_b3_0 g2_b3_0 k2_b3_1 g2_b3_1 k2_b3_2 g2_b3_2 k2_b3_3 g2_b3_3 k2_g5_0 g2_g5_0 k2_g5_1 g2_g5_1 k2_g5_2 g2_g5_2 k2_g5_3 g2_g5_3 k2_g6_0 g2_g6_0 k2_g6_1 g2_g6_1 k2_g6_2 g2_g6_2 k2_g6_3 g2_g6_3 k2_g7_0 g2_g7_0 k2_g7_1 g2_g7_1 k2_g7_2 g2_g7_2 k2_g7_3 g2_g7_3 k2_g8_0 g2_g8_0 k2_g8_1 g2_g8_1 k2_g8_2 g2_g8_2 k2_g8_3 g2_g8_3 e2_0 B2 z2; rintro w' ⟨h0, h1, h2, h3, h4, h5, h6, h7, h8, h9, h10, h11, h12, h13, h14, h15, h16, h17, h18, h19, h20, h21, h22, h23, h24, h25, h26, h27, h28, h29, h30, h31, h32, h33, h34, h35, h36, h37, h38, h39, h40, h41, h42, h43, h44, h45, h46, h47, h48⟩; exact c7 _
    refine obe_val (by rfl) ?_ ?_
    · clear k2_b2_0 g2_b2_0 k2_b2_1 g2_b2_1 k2_b2_2 g2_b2_2 k2_b2_3 g2_b2_3 k2_b3_0 g2_b3_0 k2_b3_1 g2_b3_1 k2_b3_2 g2_b3_2 k2_b3_3 g2_b3_3 k2_g5_0 g2_g5_0 k2_g5_1 g2_g5_1 k2_g5_2 g2_g5_2 k2_g5_3 g2_g5_3 k2_g6_0 g2_g6_0 k2_g6_1 g2_g6_1 k2_g6_2 g2_g6_2 k2_g6_3 g2_g6_3 k2_g7_0 g2_g7_0 k2_g7_1 g2_g7_1 k2_g7_2 g2_g7_2 k2_g7_3 g2_g7_3 k2_g8_0 g2_g8_0 k2_g8_1 g2_g8_1 k2_g8_2 g2_g8_2 k2_g8_3 g2_g8_3 e2_0 B2 z2; intro f hf; have u6 : f 6 = (.pointer (some ⟨g6, 0, none⟩)) := (by rw [← hf]; rfl); clear hf; rintro w' ⟨h0, h1, h2, h3, h4, h5, h6, h7, h8, h9, h10, h11, h12, h13, h14, h15, h16, h17, h18, h19, h20, h21, h22, h23, h24, h25, h26, h27, h28, h29, h30, h31, h32, h33, h34, h35, h36, h37, h38, h39, h40, h41, h42, h43, h44, h45, h46, h47, h48⟩; go_simp; try exact IntWalk.i64_in _ (by omega)
    refine obe_val (by rfl) ?_ ?_
    · clear k2_b2_0 g2_b2_0 k2_b2_1 g2_b2_1 k2_b2_2 g2_b2_2 k2_b2_3 g2_b2_3 k2_b3_0 g2_b3_0 k2_b3_1 g2_b3_1 k2_b3_2 g2_b3_2 k2_b3_3 g2_b3_3 k2_g5_0 g2_g5_0 k2_g5_1 g2_g5_1 k2_g5_2 g2_g5_2 k2_g5_3 g2_g5_3 k2_g6_0 g2_g6_0 k2_g6_1 g2_g6_1 k2_g6_2 g2_g6_2 k2_g6_3 g2_g6_3 k2_g7_0 g2_g7_0 k2_g7_1 g2_g7_1 k2_g7_2 g2_g7_2 k2_g7_3 g2_g7_3 k2_g8_0 g2_g8_0 k2_g8_1 g2_g8_1 k2_g8_2 g2_g8_2 k2_g8_3 g2_g8_3 e2_0 B2 z2; intro f hf; have u37 : f 37 = (.agg #[.int .u8 s, .int .u8 t, .int .u8 u, .int .u8 255]) := (by rw [← hf]; rfl); have u38 : f 38 = (.agg #[.int .u8 s, .int .u8 t, .int .u8 u, .int .u8 255]) := (by rw [← hf]; rfl); clear hf; rintro w' ⟨h0, h1, h2, h3, h4, h5, h6, h7, h8, h9, h10, h11, h12, h13, h14, h15, h16, h17, h18, h19, h20, h21, h22, h23, h24, h25, h26, h27, h28, h29, h30, h31, h32, h33, h34, h35, h36, h37, h38, h39, h40, h41, h42, h43, h44, h45, h46, h47, h48⟩; go_simp; try exact IntWalk.i64_in _ (by omega)
    refine obe_val (by rfl) ?_ ?_
    · clear k2_b2_0 g2_b2_0 k2_b2_1 g2_b2_1 k2_b2_2 g2_b2_2 k2_b2_3 g2_b2_3 k2_b3_0 g2_b3_0 k2_b3_1 g2_b3_1 k2_b3_2 g2_b3_2 k2_b3_3 g2_b3_3 k2_g5_0 g2_g5_0 k2_g5_1 g2_g5_1 k2_g5_2 g2_g5_2 k2_g5_3 g2_g5_3 k2_g6_0 g2_g6_0 k2_g6_1 g2_g6_1 k2_g6_2 g2_g6_2 k2_g6_3 g2_g6_3 k2_g7_0 g2_g7_0 k2_g7_1 g2_g7_1 k2_g7_2 g2_g7_2 k2_g7_3 g2_g7_3 k2_g8_0 g2_g8_0 k2_g8_1 g2_g8_1 k2_g8_2 g2_g8_2 k2_g8_3 g2_g8_3 e2_0 B2 z2; intro f hf; have u34 : f 34 = (.bool true) := (by rw [← hf]; rfl); have u39 : f 39 = (.bool true) := (by rw [← hf]; rfl); clear hf; rintro w' ⟨h0, h1, h2, h3, h4, h5, h6, h7, h8, h9, h10, h11, h12, h13, h14, h15, h16, h17, h18, h19, h20, h21, h22, h23, h24, h25, h26, h27, h28, h29, h30, h31, h32, h33, h34, h35, h36, h37, h38, h39, h40, h41, h42, h43, h44, h45, h46, h47, h48⟩; go_simp; try exact IntWalk.i64_in _ (by omega)
    refine obe_val (by rfl) ?_ ?_
    · clear k2_b2_0 g2_b2_0 k2_b2_1 g2_b2_1 k2_b2_2 g2_b2_2 k2_b2_3 g2_b2_3 k2_b3_0 g2_b3_0 k2_b3_1 g2_b3_1 k2_b3_2 g2_b3_2 k2_b3_3 g2_b3_3 k2_g5_0 g2_g5_0 k2_g5_1 g2_g5_1 k2_g5_2 g2_g5_2 k2_g5_3 g2_g5_3 k2_g6_0 g2_g6_0 k2_g6_1 g2_g6_1 k2_g6_2 g2_g6_2 k2_g6_3 g2_g6_3 k2_g7_0 g2_g7_0 k2_g7_1 g2_g7_1 k2_g7_2 g2_g7_2 k2_g7_3 g2_g7_3 k2_g8_0 g2_g8_0 k2_g8_1 g2_g8_1 k2_g8_2 g2_g8_2 k2_g8_3 g2_g8_3 e2_0 B2 z2; intro f hf; have u40 : f 40 = (.bool true) := (by rw [← hf]; rfl); clear hf; rintro w' ⟨h0, h1, h2, h3, h4, h5, h6, h7, h8, h9, h10, h11, h12, h13, h14, h15, h16, h17, h18, h19, h20, h21, h22, h23, h24, h25, h26, h27, h28, h29, h30, h31, h32, h33, h34, h35, h36, h37, h38, h39, h40, h41, h42, h43, h44, h45, h46, h47, h48⟩; go_simp; try exact IntWalk.i64_in _ (by omega)
    refine obe_val (by rfl) ?_ ?_
    · clear k2_b2_0 g2_b2_0 k2_b2_1 g2_b2_1 k2_b2_2 g2_b2_2 k2_b2_3 g2_b2_3 k2_b3_0 g2_b3_0 k2_b3_1 g2_b3_1 k2_b3_2 g2_b3_2 k2_b3_3 g2_b3_3 k2_g5_0 g2_g5_0 k2_g5_1 g2_g5_1 k2_g5_2 g2_g5_2 k2_g5_3 g2_g5_3 k2_g6_0 g2_g6_0 k2_g6_1 g2_g6_1 k2_g6_2 g2_g6_2 k2_g6_3 g2_g6_3 k2_g7_0 g2_g7_0 k2_g7_1 g2_g7_1 k2_g7_2 g2_g7_2 k2_g7_3 g2_g7_3 k2_g8_0 g2_g8_0 k2_g8_1 g2_g8_1 k2_g8_2 g2_g8_2 k2_g8_3 g2_g8_3 e2_0 B2 z2; intro f hf; have u6 : f 6 = (.pointer (some ⟨g6, 0, none⟩)) := (by rw [← hf]; rfl); clear hf; rintro w' ⟨h0, h1, h2, h3, h4, h5, h6, h7, h8, h9, h10, h11, h12, h13, h14, h15, h16, h17, h18, h19, h20, h21, h22, h23, h24, h25, h26, h27, h28, h29, h30, h31, h32, h33, h34, h35, h36, h37, h38, h39, h40, h41, h42, h43, h44, h45, h46, h47, h48⟩; go_simp; try exact IntWalk.i64_in _ (by omega)
    refine obe_val (by rfl) ?_ ?_
    · clear k2_b2_0 g2_b2_0 k2_b2_1 g2_b2_1 k2_b2_2 g2_b2_2 k2_b2_3 g2_b2_3 k2_b3_0 g2_b3_0 k2_b3_1 g2_b3_1 k2_b3_2 g2_b3_2 k2_b3_3 g2_b3_3 k2_g5_0 g2_g5_0 k2_g5_1 g2_g5_1 k2_g5_2 g2_g5_2 k2_g5_3 g2_g5_3 k2_g6_0 g2_g6_0 k2_g6_1 g2_g6_1 k2_g6_2 g2_g6_2 k2_g6_3 g2_g6_3 k2_g7_0 g2_g7_0 k2_g7_1 g2_g7_1 k2_g7_2 g2_g7_2 k2_g7_3 g2_g7_3 k2_g8_0 g2_g8_0 k2_g8_1 g2_g8_1 k2_g8_2 g2_g8_2 k2_g8_3 g2_g8_3 e2_0 B2 z2; intro f hf; have u6 : f 6 = (.pointer (some ⟨g6, 0, none⟩)) := (by rw [← hf]; rfl); clear hf; rintro w' ⟨h0, h1, h2, h3, h4, h5, h6, h7, h8, h9, h10, h11, h12, h13, h14, h15, h16, h17, h18, h19, h20, h21, h22, h23, h24, h25, h26, h27, h28, h29, h30, h31, h32, h33, h34, h35, h36, h37, h38, h39, h40, h41, h42, h43, h44, h45, h46, h47, h48⟩; go_simp; try exact IntWalk.i64_in _ (by omega)
    refine obe_call (by rfl) ?_ ?_ ?_
    · clear k2_b2_0 g2_b2_0 k2_b2_1 g2_b2_1 k2_b2_2 g2_b2_2 k2_b2_3 g2_b2_3 k2_b3_0 g2_b3_0 k2_b3_1 g2_b3_1 k2_b3_2 g2_b3_2 k2_b3_3 g2_b3_3 k2_g5_0 g2_g5_0 k2_g5_1 g2_g5_1 k2_g5_2 g2_g5_2 k2_g5_3 g2_g5_3 k2_g6_0 g2_g6_0 k2_g6_1 g2_g6_1 k2_g6_2 g2_g6_2 k2_g6_3 g2_g6_3 k2_g7_0 g2_g7_0 k2_g7_1 g2_g7_1 k2_g7_2 g2_g7_2 k2_g7_3 g2_g7_3 k2_g8_0 g2_g8_0 k2_g8_1 g2_g8_1 k2_g8_2 g2_g8_2 k2_g8_3 g2_g8_3 e2_0 B2 z2; intro f hf; have u42 : f 42 = (.agg #[.int .u8 s, .int .u8 t, .int .u8 u, .int .u8 255]) := (by rw [← hf]; rfl); have u43 : f 43 = (.agg #[.int .u8 s, .int .u8 t, .int .u8 u, .int .u8 255]) := (by rw [← hf]; rfl); clear hf; intro w' _; simp only [execOp, resolve, invoke, rhoF_tmp, rhoF_func, rhoF_const, u42, u43, List.map_toArray, List.map_cons, List.map_nil]; go_simp
    · clear k2_b2_0 g2_b2_0 k2_b2_1 g2_b2_1 k2_b2_2 g2_b2_2 k2_b2_3 g2_b2_3 k2_b3_0 g2_b3_0 k2_b3_1 g2_b3_1 k2_b3_2 g2_b3_2 k2_b3_3 g2_b3_3 k2_g5_0 g2_g5_0 k2_g5_1 g2_g5_1 k2_g5_2 g2_g5_2 k2_g5_3 g2_g5_3 k2_g6_0 g2_g6_0 k2_g6_1 g2_g6_1 k2_g6_2 g2_g6_2 k2_g6_3 g2_g6_3 k2_g7_0 g2_g7_0 k2_g7_1 g2_g7_1 k2_g7_2 g2_g7_2 k2_g7_3 g2_g7_3 k2_g8_0 g2_g8_0 k2_g8_1 g2_g8_1 k2_g8_2 g2_g8_2 k2_g8_3 g2_g8_3 e2_0 B2 z2; rintro w' ⟨h0, h1, h2, h3, h4, h5, h6, h7, h8, h9, h10, h11, h12, h13, h14, h15, h16, h17, h18, h19, h20, h21, h22, h23, h24, h25, h26, h27, h28, h29, h30, h31, h32, h33, h34, h35, h36, h37, h38, h39, h40, h41, h42, h43, h44, h45, h46, h47, h48⟩; exact c8 _
    refine obe_val (by rfl) ?_ ?_
    · clear k2_b2_0 g2_b2_0 k2_b2_1 g2_b2_1 k2_b2_2 g2_b2_2 k2_b2_3 g2_b2_3 k2_b3_0 g2_b3_0 k2_b3_1 g2_b3_1 k2_b3_2 g2_b3_2 k2_b3_3 g2_b3_3 k2_g5_0 g2_g5_0 k2_g5_1 g2_g5_1 k2_g5_2 g2_g5_2 k2_g5_3 g2_g5_3 k2_g6_0 g2_g6_0 k2_g6_1 g2_g6_1 k2_g6_2 g2_g6_2 k2_g6_3 g2_g6_3 k2_g7_0 g2_g7_0 k2_g7_1 g2_g7_1 k2_g7_2 g2_g7_2 k2_g7_3 g2_g7_3 k2_g8_0 g2_g8_0 k2_g8_1 g2_g8_1 k2_g8_2 g2_g8_2 k2_g8_3 g2_g8_3 e2_0 B2 z2; intro f hf; have u8 : f 8 = (.pointer (some ⟨wc.heap.size + 1, 0, none⟩)) := (by rw [← hf]; rfl); clear hf; rintro w' ⟨h0, h1, h2, h3, h4, h5, h6, h7, h8, h9, h10, h11, h12, h13, h14, h15, h16, h17, h18, h19, h20, h21, h22, h23, h24, h25, h26, h27, h28, h29, h30, h31, h32, h33, h34, h35, h36, h37, h38, h39, h40, h41, h42, h43, h44, h45, h46, h47, h48⟩; go_simp; try exact IntWalk.i64_in _ (by omega)
    refine obe_val (by rfl) ?_ ?_
    · clear k2_b2_0 g2_b2_0 k2_b2_1 g2_b2_1 k2_b2_2 g2_b2_2 k2_b2_3 g2_b2_3 k2_b3_0 g2_b3_0 k2_b3_1 g2_b3_1 k2_b3_2 g2_b3_2 k2_b3_3 g2_b3_3 k2_g5_0 g2_g5_0 k2_g5_1 g2_g5_1 k2_g5_2 g2_g5_2 k2_g5_3 g2_g5_3 k2_g6_0 g2_g6_0 k2_g6_1 g2_g6_1 k2_g6_2 g2_g6_2 k2_g6_3 g2_g6_3 k2_g7_0 g2_g7_0 k2_g7_1 g2_g7_1 k2_g7_2 g2_g7_2 k2_g7_3 g2_g7_3 k2_g8_0 g2_g8_0 k2_g8_1 g2_g8_1 k2_g8_2 g2_g8_2 k2_g8_3 g2_g8_3 e2_0 B2 z2; intro f hf; have u44 : f 44 = (.agg #[.int .u8 0, .int .u8 0, .int .u8 0, .int .u8 255]) := (by rw [← hf]; rfl); have u45 : f 45 = (.agg #[.int .u8 0, .int .u8 0, .int .u8 0, .int .u8 255]) := (by rw [← hf]; rfl); clear hf; rintro w' ⟨h0, h1, h2, h3, h4, h5, h6, h7, h8, h9, h10, h11, h12, h13, h14, h15, h16, h17, h18, h19, h20, h21, h22, h23, h24, h25, h26, h27, h28, h29, h30, h31, h32, h33, h34, h35, h36, h37, h38, h39, h40, h41, h42, h43, h44, h45, h46, h47, h48⟩; go_simp; try exact IntWalk.i64_in _ (by omega)
    refine obe_val (by rfl) ?_ ?_
    · clear k2_b2_0 g2_b2_0 k2_b2_1 g2_b2_1 k2_b2_2 g2_b2_2 k2_b2_3 g2_b2_3 k2_b3_0 g2_b3_0 k2_b3_1 g2_b3_1 k2_b3_2 g2_b3_2 k2_b3_3 g2_b3_3 k2_g5_0 g2_g5_0 k2_g5_1 g2_g5_1 k2_g5_2 g2_g5_2 k2_g5_3 g2_g5_3 k2_g6_0 g2_g6_0 k2_g6_1 g2_g6_1 k2_g6_2 g2_g6_2 k2_g6_3 g2_g6_3 k2_g7_0 g2_g7_0 k2_g7_1 g2_g7_1 k2_g7_2 g2_g7_2 k2_g7_3 g2_g7_3 k2_g8_0 g2_g8_0 k2_g8_1 g2_g8_1 k2_g8_2 g2_g8_2 k2_g8_3 g2_g8_3 e2_0 B2 z2; intro f hf; have u41 : f 41 = (.bool true) := (by rw [← hf]; rfl); have u46 : f 46 = (.bool true) := (by rw [← hf]; rfl); clear hf; rintro w' ⟨h0, h1, h2, h3, h4, h5, h6, h7, h8, h9, h10, h11, h12, h13, h14, h15, h16, h17, h18, h19, h20, h21, h22, h23, h24, h25, h26, h27, h28, h29, h30, h31, h32, h33, h34, h35, h36, h37, h38, h39, h40, h41, h42, h43, h44, h45, h46, h47, h48⟩; go_simp; try exact IntWalk.i64_in _ (by omega)
    refine obe_val (by rfl) ?_ ?_
    · clear k2_b2_0 g2_b2_0 k2_b2_1 g2_b2_1 k2_b2_2 g2_b2_2 k2_b2_3 g2_b2_3 k2_b3_0 g2_b3_0 k2_b3_1 g2_b3_1 k2_b3_2 g2_b3_2 k2_b3_3 g2_b3_3 k2_g5_0 g2_g5_0 k2_g5_1 g2_g5_1 k2_g5_2 g2_g5_2 k2_g5_3 g2_g5_3 k2_g6_0 g2_g6_0 k2_g6_1 g2_g6_1 k2_g6_2 g2_g6_2 k2_g6_3 g2_g6_3 k2_g7_0 g2_g7_0 k2_g7_1 g2_g7_1 k2_g7_2 g2_g7_2 k2_g7_3 g2_g7_3 k2_g8_0 g2_g8_0 k2_g8_1 g2_g8_1 k2_g8_2 g2_g8_2 k2_g8_3 g2_g8_3 e2_0 B2 z2; intro f hf; have u47 : f 47 = (.bool true) := (by rw [← hf]; rfl); clear hf; rintro w' ⟨h0, h1, h2, h3, h4, h5, h6, h7, h8, h9, h10, h11, h12, h13, h14, h15, h16, h17, h18, h19, h20, h21, h22, h23, h24, h25, h26, h27, h28, h29, h30, h31, h32, h33, h34, h35, h36, h37, h38, h39, h40, h41, h42, h43, h44, h45, h46, h47, h48⟩; go_simp; try exact IntWalk.i64_in _ (by omega)
    refine obe_call (by rfl) ?_ ?_ ?_
    · clear k2_b2_0 g2_b2_0 k2_b2_1 g2_b2_1 k2_b2_2 g2_b2_2 k2_b2_3 g2_b2_3 k2_b3_0 g2_b3_0 k2_b3_1 g2_b3_1 k2_b3_2 g2_b3_2 k2_b3_3 g2_b3_3 k2_g5_0 g2_g5_0 k2_g5_1 g2_g5_1 k2_g5_2 g2_g5_2 k2_g5_3 g2_g5_3 k2_g6_0 g2_g6_0 k2_g6_1 g2_g6_1 k2_g6_2 g2_g6_2 k2_g6_3 g2_g6_3 k2_g7_0 g2_g7_0 k2_g7_1 g2_g7_1 k2_g7_2 g2_g7_2 k2_g7_3 g2_g7_3 k2_g8_0 g2_g8_0 k2_g8_1 g2_g8_1 k2_g8_2 g2_g8_2 k2_g8_3 g2_g8_3 e2_0 B2 z2; intro f hf; clear hf; intro w' _; simp only [execOp, resolve, invoke, rhoF_tmp, rhoF_func, rhoF_const, List.map_toArray, List.map_cons, List.map_nil]; go_simp
    · clear k2_b2_0 g2_b2_0 k2_b2_1 g2_b2_1 k2_b2_2 g2_b2_2 k2_b2_3 g2_b2_3 k2_b3_0 g2_b3_0 k2_b3_1 g2_b3_1 k2_b3_2 g2_b3_2 k2_b3_3 g2_b3_3 k2_g5_0 g2_g5_0 k2_g5_1 g2_g5_1 k2_g5_2 g2_g5_2 k2_g5_3 g2_g5_3 k2_g6_0 g2_g6_0 k2_g6_1 g2_g6_1 k2_g6_2 g2_g6_2 k2_g6_3 g2_g6_3 k2_g7_0 g2_g7_0 k2_g7_1 g2_g7_1 k2_g7_2 g2_g7_2 k2_g7_3 g2_g7_3 k2_g8_0 g2_g8_0 k2_g8_1 g2_g8_1 k2_g8_2 g2_g8_2 k2_g8_3 g2_g8_3 e2_0 B2 z2; rintro w' ⟨h0, h1, h2, h3, h4, h5, h6, h7, h8, h9, h10, h11, h12, h13, h14, h15, h16, h17, h18, h19, h20, h21, h22, h23, h24, h25, h26, h27, h28, h29, h30, h31, h32, h33, h34, h35, h36, h37, h38, h39, h40, h41, h42, h43, h44, h45, h46, h47, h48⟩; exact bex_any _ (by assumption)
    refine obe_val (by rfl) ?_ ?_
    · clear k2_b2_0 g2_b2_0 k2_b2_1 g2_b2_1 k2_b2_2 g2_b2_2 k2_b2_3 g2_b2_3 k2_b3_0 g2_b3_0 k2_b3_1 g2_b3_1 k2_b3_2 g2_b3_2 k2_b3_3 g2_b3_3 k2_g5_0 g2_g5_0 k2_g5_1 g2_g5_1 k2_g5_2 g2_g5_2 k2_g5_3 g2_g5_3 k2_g6_0 g2_g6_0 k2_g6_1 g2_g6_1 k2_g6_2 g2_g6_2 k2_g6_3 g2_g6_3 k2_g7_0 g2_g7_0 k2_g7_1 g2_g7_1 k2_g7_2 g2_g7_2 k2_g7_3 g2_g7_3 k2_g8_0 g2_g8_0 k2_g8_1 g2_g8_1 k2_g8_2 g2_g8_2 k2_g8_3 g2_g8_3 e2_0 B2 z2; intro f hf; have u48 : f 48 = (.bool true) := (by rw [← hf]; rfl); have u49 : f 49 = (.bool true) := (by rw [← hf]; rfl); clear hf; rintro w' ⟨h0, h1, h2, h3, h4, h5, h6, h7, h8, h9, h10, h11, h12, h13, h14, h15, h16, h17, h18, h19, h20, h21, h22, h23, h24, h25, h26, h27, h28, h29, h30, h31, h32, h33, h34, h35, h36, h37, h38, h39, h40, h41, h42, h43, h44, h45, h46, h47, h48⟩; go_simp; try exact IntWalk.i64_in _ (by omega)
    refine obe_val (by rfl) ?_ ?_
    · clear k2_b2_0 g2_b2_0 k2_b2_1 g2_b2_1 k2_b2_2 g2_b2_2 k2_b2_3 g2_b2_3 k2_b3_0 g2_b3_0 k2_b3_1 g2_b3_1 k2_b3_2 g2_b3_2 k2_b3_3 g2_b3_3 k2_g5_0 g2_g5_0 k2_g5_1 g2_g5_1 k2_g5_2 g2_g5_2 k2_g5_3 g2_g5_3 k2_g6_0 g2_g6_0 k2_g6_1 g2_g6_1 k2_g6_2 g2_g6_2 k2_g6_3 g2_g6_3 k2_g7_0 g2_g7_0 k2_g7_1 g2_g7_1 k2_g7_2 g2_g7_2 k2_g7_3 g2_g7_3 k2_g8_0 g2_g8_0 k2_g8_1 g2_g8_1 k2_g8_2 g2_g8_2 k2_g8_3 g2_g8_3 e2_0 B2 z2; intro f hf; have u50 : f 50 = (.bool true) := (by rw [← hf]; rfl); clear hf; rintro w' ⟨h0, h1, h2, h3, h4, h5, h6, h7, h8, h9, h10, h11, h12, h13, h14, h15, h16, h17, h18, h19, h20, h21, h22, h23, h24, h25, h26, h27, h28, h29, h30, h31, h32, h33, h34, h35, h36, h37, h38, h39, h40, h41, h42, h43, h44, h45, h46, h47, h48⟩; go_simp; try exact IntWalk.i64_in _ (by omega)
    refine obe_nil ?_
    rintro w3 ⟨h0, h1, h2, h3, h4, h5, h6, h7, h8, h9, h10, h11, h12, h13, h14, h15, h16, h17, h18, h19, h20, h21, h22, h23, h24, h25, h26, h27, h28, h29, h30, h31, h32, h33, h34, h35, h36, h37, h38, h39, h40, h41, h42, h43, h44, h45, h46, h47, h48⟩ hb3 hF
    (try simp only [List.nil_append, List.append_nil, List.cons_append] at hF)
    simp only [puts, putD, Act.put, List.setIfInBounds_toArray, List.set_cons_zero, List.set_cons_succ]
    clear hF
    have k3_b2_0 := bcs hb3 k2_b2_0
    have g3_b2_0 := bfs hb3 k2_b2_0 g2_b2_0
    have k3_b2_1 := bcs hb3 k2_b2_1
    have g3_b2_1 := bfs hb3 k2_b2_1 g2_b2_1
    have k3_b2_2 := bcs hb3 k2_b2_2
    have g3_b2_2 := bfs hb3 k2_b2_2 g2_b2_2
    have k3_b2_3 := bcs hb3 k2_b2_3
    have g3_b2_3 := bfs hb3 k2_b2_3 g2_b2_3
    have k3_b3_0 := bcs hb3 k2_b3_0
    have g3_b3_0 := bfs hb3 k2_b3_0 g2_b3_0
    have k3_b3_1 := bcs hb3 k2_b3_1
    have g3_b3_1 := bfs hb3 k2_b3_1 g2_b3_1
    have k3_b3_2 := bcs hb3 k2_b3_2
    have g3_b3_2 := bfs hb3 k2_b3_2 g2_b3_2
    have k3_b3_3 := bcs hb3 k2_b3_3
    have g3_b3_3 := bfs hb3 k2_b3_3 g2_b3_3
    have k3_g5_0 := bcs hb3 k2_g5_0
    have g3_g5_0 := bfs hb3 k2_g5_0 g2_g5_0
    have k3_g5_1 := bcs hb3 k2_g5_1
    have g3_g5_1 := bfs hb3 k2_g5_1 g2_g5_1
    have k3_g5_2 := bcs hb3 k2_g5_2
    have g3_g5_2 := bfs hb3 k2_g5_2 g2_g5_2
    have k3_g5_3 := bcs hb3 k2_g5_3
    have g3_g5_3 := bfs hb3 k2_g5_3 g2_g5_3
    have k3_g6_0 := bcs hb3 k2_g6_0
    have g3_g6_0 := bfs hb3 k2_g6_0 g2_g6_0
    have k3_g6_1 := bcs hb3 k2_g6_1
    have g3_g6_1 := bfs hb3 k2_g6_1 g2_g6_1
    have k3_g6_2 := bcs hb3 k2_g6_2
    have g3_g6_2 := bfs hb3 k2_g6_2 g2_g6_2
    have k3_g6_3 := bcs hb3 k2_g6_3
    have g3_g6_3 := bfs hb3 k2_g6_3 g2_g6_3
    have k3_g7_0 := bcs hb3 k2_g7_0
    have g3_g7_0 := bfs hb3 k2_g7_0 g2_g7_0
    have k3_g7_1 := bcs hb3 k2_g7_1
    have g3_g7_1 := bfs hb3 k2_g7_1 g2_g7_1
    have k3_g7_2 := bcs hb3 k2_g7_2
    have g3_g7_2 := bfs hb3 k2_g7_2 g2_g7_2
    have k3_g7_3 := bcs hb3 k2_g7_3
    have g3_g7_3 := bfs hb3 k2_g7_3 g2_g7_3
    have k3_g8_0 := bcs hb3 k2_g8_0
    have g3_g8_0 := bfs hb3 k2_g8_0 g2_g8_0
    have k3_g8_1 := bcs hb3 k2_g8_1
    have g3_g8_1 := bfs hb3 k2_g8_1 g2_g8_1
    have k3_g8_2 := bcs hb3 k2_g8_2
    have g3_g8_2 := bfs hb3 k2_g8_2 g2_g8_2
    have k3_g8_3 := bcs hb3 k2_g8_3
    have g3_g8_3 := bfs hb3 k2_g8_3 g2_g8_3
    clear h0 h1 h2 h3 h4 h5 h6 h7 h8 h9 h10 h11 h12 h13 h14 h15 h16 h17 h18 h19 h20 h21 h22 h23 h24 h25 h26 h27 h28 h29 h30 h31 h32 h33 h34 h35 h36 h37 h38 h39 h40 h41 h42 h43 h44 h45 h46 h47 h48
    have B3 := bel_step B2 hb3
    have z3 := Nat.le_trans z2 hb3.size
    have e3_0 := Nm.below hN B3
    clear hb3
    (try clear B2)
    (try clear z2)
    (try clear k2_b2_0)
    (try clear g2_b2_0)
    (try clear k2_b2_1)
    (try clear g2_b2_1)
    (try clear k2_b2_2)
    (try clear g2_b2_2)
    (try clear k2_b2_3)
    (try clear g2_b2_3)
    (try clear k2_b3_0)
    (try clear g2_b3_0)
    (try clear k2_b3_1)
    (try clear g2_b3_1)
    (try clear k2_b3_2)
    (try clear g2_b3_2)
    (try clear k2_b3_3)
    (try clear g2_b3_3)
    (try clear k2_g5_0)
    (try clear g2_g5_0)
    (try clear k2_g5_1)
    (try clear g2_g5_1)
    (try clear k2_g5_2)
    (try clear g2_g5_2)
    (try clear k2_g5_3)
    (try clear g2_g5_3)
    (try clear k2_g6_0)
    (try clear g2_g6_0)
    (try clear k2_g6_1)
    (try clear g2_g6_1)
    (try clear k2_g6_2)
    (try clear g2_g6_2)
    (try clear k2_g6_3)
    (try clear g2_g6_3)
    (try clear k2_g7_0)
    (try clear g2_g7_0)
    (try clear k2_g7_1)
    (try clear g2_g7_1)
    (try clear k2_g7_2)
    (try clear g2_g7_2)
    (try clear k2_g7_3)
    (try clear g2_g7_3)
    (try clear k2_g8_0)
    (try clear g2_g8_0)
    (try clear k2_g8_1)
    (try clear g2_g8_1)
    (try clear k2_g8_2)
    (try clear g2_g8_2)
    (try clear k2_g8_3)
    (try clear g2_g8_3)
    (try clear e2_0)
    (try clear q2_b2)
    (try clear x2_b2)
    (try clear y2_b2)
    (try clear q2_b3)
    (try clear x2_b3)
    (try clear y2_b3)
    (try clear q2_g5)
    (try clear x2_g5)
    (try clear y2_g5)
    (try clear q2_g6)
    (try clear x2_g6)
    (try clear y2_g6)
    (try clear q2_g7)
    (try clear x2_g7)
    (try clear y2_g7)
    (try clear q2_g8)
    (try clear x2_g8)
    (try clear y2_g8)
    have q3_b2 : w.heap.size < w3.heap.size := qlt k3_b2_0
    have x3_b2 : ¬ w.heap.size = w3.heap.size := qne k3_b2_0
    have y3_b2 : ¬ w3.heap.size = w.heap.size := fun h => qne k3_b2_0 h.symm
    have q3_b3 : w.heap.size + 1 < w3.heap.size := qlt k3_b3_0
    have x3_b3 : ¬ w.heap.size + 1 = w3.heap.size := qne k3_b3_0
    have y3_b3 : ¬ w3.heap.size = w.heap.size + 1 := fun h => qne k3_b3_0 h.symm
    have q3_g5 : g5 < w3.heap.size := qlt k3_g5_0
    have x3_g5 : ¬ g5 = w3.heap.size := qne k3_g5_0
    have y3_g5 : ¬ w3.heap.size = g5 := fun h => qne k3_g5_0 h.symm
    have q3_g6 : g6 < w3.heap.size := qlt k3_g6_0
    have x3_g6 : ¬ g6 = w3.heap.size := qne k3_g6_0
    have y3_g6 : ¬ w3.heap.size = g6 := fun h => qne k3_g6_0 h.symm
    have q3_g7 : wc.heap.size < w3.heap.size := qlt k3_g7_0
    have x3_g7 : ¬ wc.heap.size = w3.heap.size := qne k3_g7_0
    have y3_g7 : ¬ w3.heap.size = wc.heap.size := fun h => qne k3_g7_0 h.symm
    have q3_g8 : wc.heap.size + 1 < w3.heap.size := qlt k3_g8_0
    have x3_g8 : ¬ wc.heap.size + 1 = w3.heap.size := qne k3_g8_0
    have y3_g8 : ¬ w3.heap.size = wc.heap.size + 1 := fun h => qne k3_g8_0 h.symm
    unfold wpList
    go_wp2
    go_ret
    refine ⟨rfl, ?_⟩
    repeat (first | with_reducible exact Below.refl _ _ | with_reducible exact B3 | with_reducible apply below_drewN | with_reducible apply Below.drew | (with_reducible refine Below.alloc ?_ (by first | (simp; done) | (simp; omega) | omega) _) | (with_reducible refine Below.setCell ?_ (by first | (simp; done) | (simp; omega) | omega) _))
end Go.Proofs.YtdhajiaepaamgaaDoor
