
import Derived.Test.YthofacdiajhjmaaClamp
import Derived.Test.YthofacdiajhjmaaPre
import Derived.WalkKit
import Derived.WalkSpells
import Derived.WalkLawsBesides
import Derived.Lib.Hide
import Derived.Below
import Derived.Deep.QuietTactic
import Derived.BigQuiet
import Derived.Deep.RegionHeld3
import Derived.Deep.DrawnRows
import Derived.Deep.DeepFit
import Derived.IntWalk
namespace Go.Proofs.Ythofacdiajhjmaa
open Go.RowKit
set_option linter.unusedVariables false
set_option linter.unusedSimpArgs false
attribute [local go_sem ↓] Go.wp_at_zero Go.wp_at_succ

set_option maxHeartbeats 1000000 in
theorem vclamp_any (x y : Int) (w : World) :
    Calls Try.prog 29 #[.agg #[.int .i64 x, .int .i64 y]] w fun e w' => e = .returned (.agg #[.int .i64 (hold x), .int .i64 (hold y)]) ∧ Below w.heap.size w w' := by
  go_enter Try.func29, Try.ntmps29
  go_wp2
  refine wp_region_ord (fun w' => w'.cell? ⟨w.heap.size, 0, none⟩ = some (.int .i64 x) ∧ w'.frozen? ⟨w.heap.size, 0, none⟩ = false ∧ w'.cell? ⟨w.heap.size, 1, none⟩ = some (.int .i64 y) ∧ w'.frozen? ⟨w.heap.size, 1, none⟩ = false) (fun W => W.cell? ⟨w.heap.size, 0, none⟩ = some (.int .i64 x) ∧ W.frozen? ⟨w.heap.size, 0, none⟩ = false ∧ W.cell? ⟨w.heap.size, 1, none⟩ = some (.int .i64 y) ∧ W.frozen? ⟨w.heap.size, 1, none⟩ = false ∧ W.cell? ⟨w.heap.size + 1, 0, none⟩ = some (.int .i64 0) ∧ W.frozen? ⟨w.heap.size + 1, 0, none⟩ = false ∧ W.cell? ⟨w.heap.size + 1, 1, none⟩ = some (.int .i64 0) ∧ W.frozen? ⟨w.heap.size + 1, 1, none⟩ = false ∧ Below w.heap.size w W ∧ w.heap.size + 1 + 1 ≤ W.heap.size) 7 [.val (.pointer (some ⟨w.heap.size, 0, none⟩)), .val (.int .i64 x), .call 28 #[.int .i64 x, .int .i64 (-1048576), .int .i64 1048576] (.int .i64 (hold x)), .val (.pointer (some ⟨w.heap.size, 1, none⟩)), .val (.int .i64 y), .call 28 #[.int .i64 y, .int .i64 (-1048576), .int .i64 1048576] (.int .i64 (hold y)), .val (.agg #[.int .i64 (hold x), .int .i64 (hold y)])] (by kernel_rfl) (by kernel_rfl) (by rintro w1 w2 ⟨h0, h1, h2, h3⟩ hb; exact ⟨bcs hb h0, bfs hb h0 h1, bcs hb h2, bfs hb h2 h3⟩) ⟨by first | with_reducible assumption | go_simp, by first | with_reducible assumption | go_simp, by first | with_reducible assumption | go_simp, by first | with_reducible assumption | go_simp, by first | with_reducible assumption | go_simp, by first | with_reducible assumption | go_simp, by first | with_reducible assumption | go_simp, by first | with_reducible assumption | go_simp, by repeat (first | with_reducible exact Below.refl _ _ | fail | with_reducible apply below_drewN | with_reducible apply Below.drew | (with_reducible refine Below.alloc ?_ (by first | (simp; done) | (simp; omega) | omega) _) | (with_reducible refine Below.setCell ?_ (by first | (simp; done) | (simp; omega) | omega) _)), by first | with_reducible assumption | (simp; done) | (simp; omega)⟩ ?_ ?_
  · rintro W ⟨k1_p_0, g1_p_0, k1_p_1, g1_p_1, k1_r_0, g1_r_0, k1_r_1, g1_r_1, B1, z1⟩; exact ⟨k1_p_0, g1_p_0, k1_p_1, g1_p_1⟩
  rintro w1 ⟨k1_p_0, g1_p_0, k1_p_1, g1_p_1, k1_r_0, g1_r_0, k1_r_1, g1_r_1, B1, z1⟩ gg
  simp only [List.take_succ_cons, List.take_zero, List.drop_succ_cons, List.drop_zero, Obs, ob, Sp.get, Sp.news, Act.put, List.setIfInBounds_toArray, List.set_cons_zero, List.set_cons_succ, List.nil_append, List.cons_append, List.append_nil]
  refine ⟨⟨rfl, ?_⟩, ⟨rfl, ?_⟩, ⟨rfl, ?_, ?_⟩, ⟨rfl, ?_⟩, ⟨rfl, ?_⟩, ⟨rfl, ?_, ?_⟩, ⟨rfl, ?_⟩, ?_⟩
  · clear k1_p_0 g1_p_0 k1_p_1 g1_p_1 k1_r_0 g1_r_0 k1_r_1 g1_r_1 B1 z1; rintro w' ⟨h0, h1, h2, h3⟩; go_simp; try exact IntWalk.i64_in _ (by omega)
  · clear k1_p_0 g1_p_0 k1_p_1 g1_p_1 k1_r_0 g1_r_0 k1_r_1 g1_r_1 B1 z1; rintro w' ⟨h0, h1, h2, h3⟩; go_simp; try exact IntWalk.i64_in _ (by omega)
  · clear k1_p_0 g1_p_0 k1_p_1 g1_p_1 k1_r_0 g1_r_0 k1_r_1 g1_r_1 B1 z1; rintro w' ⟨h0, h1, h2, h3⟩; go_simp
  · clear k1_p_0 g1_p_0 k1_p_1 g1_p_1 k1_r_0 g1_r_0 k1_r_1 g1_r_1 B1 z1; rintro w' ⟨h0, h1, h2, h3⟩; exact (clamp_any x (-1048576) 1048576 _).mono (by rintro e w2 ⟨rfl, rfl⟩; exact ⟨rfl, Below.refl _ _⟩)
  · clear k1_p_0 g1_p_0 k1_p_1 g1_p_1 k1_r_0 g1_r_0 k1_r_1 g1_r_1 B1 z1; rintro w' ⟨h0, h1, h2, h3⟩; go_simp; try exact IntWalk.i64_in _ (by omega)
  · clear k1_p_0 g1_p_0 k1_p_1 g1_p_1 k1_r_0 g1_r_0 k1_r_1 g1_r_1 B1 z1; rintro w' ⟨h0, h1, h2, h3⟩; go_simp; try exact IntWalk.i64_in _ (by omega)
  · clear k1_p_0 g1_p_0 k1_p_1 g1_p_1 k1_r_0 g1_r_0 k1_r_1 g1_r_1 B1 z1; rintro w' ⟨h0, h1, h2, h3⟩; go_simp
  · clear k1_p_0 g1_p_0 k1_p_1 g1_p_1 k1_r_0 g1_r_0 k1_r_1 g1_r_1 B1 z1; rintro w' ⟨h0, h1, h2, h3⟩; exact (clamp_any y (-1048576) 1048576 _).mono (by rintro e w2 ⟨rfl, rfl⟩; exact ⟨rfl, Below.refl _ _⟩)
  · clear k1_p_0 g1_p_0 k1_p_1 g1_p_1 k1_r_0 g1_r_0 k1_r_1 g1_r_1 B1 z1; rintro w' ⟨h0, h1, h2, h3⟩; go_simp; try exact IntWalk.i64_in _ (by omega)
  rintro w2 ⟨h0, h1, h2, h3⟩ hb2 hF
  clear hF
  have k2_p_0 := bcs hb2 k1_p_0
  have g2_p_0 := bfs hb2 k1_p_0 g1_p_0
  have k2_p_1 := bcs hb2 k1_p_1
  have g2_p_1 := bfs hb2 k1_p_1 g1_p_1
  have k2_r_0 := bcs hb2 k1_r_0
  have g2_r_0 := bfs hb2 k1_r_0 g1_r_0
  have k2_r_1 := bcs hb2 k1_r_1
  have g2_r_1 := bfs hb2 k1_r_1 g1_r_1
  clear h0 h1 h2 h3
  have B2 := bel_step B1 hb2
  have z2 := Nat.le_trans z1 hb2.size
  clear hb2
  (try clear B1)
  (try clear z1)
  (try clear k1_p_0)
  (try clear g1_p_0)
  (try clear k1_p_1)
  (try clear g1_p_1)
  (try clear k1_r_0)
  (try clear g1_r_0)
  (try clear k1_r_1)
  (try clear g1_r_1)
  (try clear q1_p)
  (try clear x1_p)
  (try clear y1_p)
  (try clear q1_r)
  (try clear x1_r)
  (try clear y1_r)
  have q2_p : w.heap.size < w2.heap.size := qlt k2_p_0
  have x2_p : ¬ w.heap.size = w2.heap.size := qne k2_p_0
  have y2_p : ¬ w2.heap.size = w.heap.size := fun h => qne k2_p_0 h.symm
  have q2_r : w.heap.size + 1 < w2.heap.size := qlt k2_r_0
  have x2_r : ¬ w.heap.size + 1 = w2.heap.size := qne k2_r_0
  have y2_r : ¬ w2.heap.size = w.heap.size + 1 := fun h => qne k2_r_0 h.symm
  go_wp2
  refine bodyPost_ret (v := .agg #[.int .i64 (hold x), .int .i64 (hold y)]) (by simp [results, Try.results29, go_sem, *]) rfl ⟨rfl, ?_⟩
  repeat (first | with_reducible exact Below.refl _ _ | with_reducible exact B2 | with_reducible apply below_drewN | with_reducible apply Below.drew | (with_reducible refine Below.alloc ?_ (by first | (simp; done) | (simp; omega) | omega) _) | (with_reducible refine Below.setCell ?_ (by first | (simp; done) | (simp; omega) | omega) _))

set_option maxHeartbeats 1000000 in
theorem hold_any (x y : Int) (w : World) :
    Calls Try.prog 31 #[.agg #[.int .i64 x, .int .i64 y]] w fun e w' => e = .returned (.agg #[.int .i64 (hold x), .int .i64 (hold y)]) ∧ Below w.heap.size w w' := by
  go_enter Try.func31, Try.ntmps31
  go_wp2
  refine wp_region_ord (fun w' => w'.cell? ⟨w.heap.size, 0, none⟩ = some (.int .i64 x) ∧ w'.frozen? ⟨w.heap.size, 0, none⟩ = false ∧ w'.cell? ⟨w.heap.size, 1, none⟩ = some (.int .i64 y) ∧ w'.frozen? ⟨w.heap.size, 1, none⟩ = false) (fun W => W.cell? ⟨w.heap.size, 0, none⟩ = some (.int .i64 x) ∧ W.frozen? ⟨w.heap.size, 0, none⟩ = false ∧ W.cell? ⟨w.heap.size, 1, none⟩ = some (.int .i64 y) ∧ W.frozen? ⟨w.heap.size, 1, none⟩ = false ∧ W.cell? ⟨w.heap.size + 1, 0, none⟩ = some (.int .i64 0) ∧ W.frozen? ⟨w.heap.size + 1, 0, none⟩ = false ∧ W.cell? ⟨w.heap.size + 1, 1, none⟩ = some (.int .i64 0) ∧ W.frozen? ⟨w.heap.size + 1, 1, none⟩ = false ∧ Below w.heap.size w W ∧ w.heap.size + 1 + 1 ≤ W.heap.size) 7 [.val (.pointer (some ⟨w.heap.size, 0, none⟩)), .val (.int .i64 x), .call 33 #[.int .i64 x, .int .i64 (-1048576), .int .i64 1048576] (.int .i64 (hold x)), .val (.pointer (some ⟨w.heap.size, 1, none⟩)), .val (.int .i64 y), .call 33 #[.int .i64 y, .int .i64 (-1048576), .int .i64 1048576] (.int .i64 (hold y)), .val (.agg #[.int .i64 (hold x), .int .i64 (hold y)])] (by kernel_rfl) (by kernel_rfl) (by rintro w1 w2 ⟨h0, h1, h2, h3⟩ hb; exact ⟨bcs hb h0, bfs hb h0 h1, bcs hb h2, bfs hb h2 h3⟩) ⟨by first | with_reducible assumption | go_simp, by first | with_reducible assumption | go_simp, by first | with_reducible assumption | go_simp, by first | with_reducible assumption | go_simp, by first | with_reducible assumption | go_simp, by first | with_reducible assumption | go_simp, by first | with_reducible assumption | go_simp, by first | with_reducible assumption | go_simp, by repeat (first | with_reducible exact Below.refl _ _ | fail | with_reducible apply below_drewN | with_reducible apply Below.drew | (with_reducible refine Below.alloc ?_ (by first | (simp; done) | (simp; omega) | omega) _) | (with_reducible refine Below.setCell ?_ (by first | (simp; done) | (simp; omega) | omega) _)), by first | with_reducible assumption | (simp; done) | (simp; omega)⟩ ?_ ?_
  · rintro W ⟨k1_p_0, g1_p_0, k1_p_1, g1_p_1, k1_r_0, g1_r_0, k1_r_1, g1_r_1, B1, z1⟩; exact ⟨k1_p_0, g1_p_0, k1_p_1, g1_p_1⟩
  rintro w1 ⟨k1_p_0, g1_p_0, k1_p_1, g1_p_1, k1_r_0, g1_r_0, k1_r_1, g1_r_1, B1, z1⟩ gg
  simp only [List.take_succ_cons, List.take_zero, List.drop_succ_cons, List.drop_zero, Obs, ob, Sp.get, Sp.news, Act.put, List.setIfInBounds_toArray, List.set_cons_zero, List.set_cons_succ, List.nil_append, List.cons_append, List.append_nil]
  refine ⟨⟨rfl, ?_⟩, ⟨rfl, ?_⟩, ⟨rfl, ?_, ?_⟩, ⟨rfl, ?_⟩, ⟨rfl, ?_⟩, ⟨rfl, ?_, ?_⟩, ⟨rfl, ?_⟩, ?_⟩
  · clear k1_p_0 g1_p_0 k1_p_1 g1_p_1 k1_r_0 g1_r_0 k1_r_1 g1_r_1 B1 z1; rintro w' ⟨h0, h1, h2, h3⟩; go_simp; try exact IntWalk.i64_in _ (by omega)
  · clear k1_p_0 g1_p_0 k1_p_1 g1_p_1 k1_r_0 g1_r_0 k1_r_1 g1_r_1 B1 z1; rintro w' ⟨h0, h1, h2, h3⟩; go_simp; try exact IntWalk.i64_in _ (by omega)
  · clear k1_p_0 g1_p_0 k1_p_1 g1_p_1 k1_r_0 g1_r_0 k1_r_1 g1_r_1 B1 z1; rintro w' ⟨h0, h1, h2, h3⟩; go_simp
  · clear k1_p_0 g1_p_0 k1_p_1 g1_p_1 k1_r_0 g1_r_0 k1_r_1 g1_r_1 B1 z1; rintro w' ⟨h0, h1, h2, h3⟩; exact (rclamp_any x (-1048576) 1048576 _).mono (by rintro e w2 ⟨rfl, rfl⟩; exact ⟨rfl, Below.refl _ _⟩)
  · clear k1_p_0 g1_p_0 k1_p_1 g1_p_1 k1_r_0 g1_r_0 k1_r_1 g1_r_1 B1 z1; rintro w' ⟨h0, h1, h2, h3⟩; go_simp; try exact IntWalk.i64_in _ (by omega)
  · clear k1_p_0 g1_p_0 k1_p_1 g1_p_1 k1_r_0 g1_r_0 k1_r_1 g1_r_1 B1 z1; rintro w' ⟨h0, h1, h2, h3⟩; go_simp; try exact IntWalk.i64_in _ (by omega)
  · clear k1_p_0 g1_p_0 k1_p_1 g1_p_1 k1_r_0 g1_r_0 k1_r_1 g1_r_1 B1 z1; rintro w' ⟨h0, h1, h2, h3⟩; go_simp
  · clear k1_p_0 g1_p_0 k1_p_1 g1_p_1 k1_r_0 g1_r_0 k1_r_1 g1_r_1 B1 z1; rintro w' ⟨h0, h1, h2, h3⟩; exact (rclamp_any y (-1048576) 1048576 _).mono (by rintro e w2 ⟨rfl, rfl⟩; exact ⟨rfl, Below.refl _ _⟩)
  · clear k1_p_0 g1_p_0 k1_p_1 g1_p_1 k1_r_0 g1_r_0 k1_r_1 g1_r_1 B1 z1; rintro w' ⟨h0, h1, h2, h3⟩; go_simp; try exact IntWalk.i64_in _ (by omega)
  rintro w2 ⟨h0, h1, h2, h3⟩ hb2 hF
  clear hF
  have k2_p_0 := bcs hb2 k1_p_0
  have g2_p_0 := bfs hb2 k1_p_0 g1_p_0
  have k2_p_1 := bcs hb2 k1_p_1
  have g2_p_1 := bfs hb2 k1_p_1 g1_p_1
  have k2_r_0 := bcs hb2 k1_r_0
  have g2_r_0 := bfs hb2 k1_r_0 g1_r_0
  have k2_r_1 := bcs hb2 k1_r_1
  have g2_r_1 := bfs hb2 k1_r_1 g1_r_1
  clear h0 h1 h2 h3
  have B2 := bel_step B1 hb2
  have z2 := Nat.le_trans z1 hb2.size
  clear hb2
  (try clear B1)
  (try clear z1)
  (try clear k1_p_0)
  (try clear g1_p_0)
  (try clear k1_p_1)
  (try clear g1_p_1)
  (try clear k1_r_0)
  (try clear g1_r_0)
  (try clear k1_r_1)
  (try clear g1_r_1)
  (try clear q1_p)
  (try clear x1_p)
  (try clear y1_p)
  (try clear q1_r)
  (try clear x1_r)
  (try clear y1_r)
  have q2_p : w.heap.size < w2.heap.size := qlt k2_p_0
  have x2_p : ¬ w.heap.size = w2.heap.size := qne k2_p_0
  have y2_p : ¬ w2.heap.size = w.heap.size := fun h => qne k2_p_0 h.symm
  have q2_r : w.heap.size + 1 < w2.heap.size := qlt k2_r_0
  have x2_r : ¬ w.heap.size + 1 = w2.heap.size := qne k2_r_0
  have y2_r : ¬ w2.heap.size = w.heap.size + 1 := fun h => qne k2_r_0 h.symm
  go_wp2
  refine bodyPost_ret (v := .agg #[.int .i64 (hold x), .int .i64 (hold y)]) (by simp [results, Try.results31, go_sem, *]) rfl ⟨rfl, ?_⟩
  repeat (first | with_reducible exact Below.refl _ _ | with_reducible exact B2 | with_reducible apply below_drewN | with_reducible apply Below.drew | (with_reducible refine Below.alloc ?_ (by first | (simp; done) | (simp; omega) | omega) _) | (with_reducible refine Below.setCell ?_ (by first | (simp; done) | (simp; omega) | omega) _))

set_option maxHeartbeats 1000000 in
theorem vadd_any (x y u v : Int) (w : World) :
    Calls Try.prog 35 #[.agg #[.int .i64 x, .int .i64 y], .agg #[.int .i64 u, .int .i64 v]] w fun e w' => e = .returned (.agg #[.int .i64 (hold x + hold u), .int .i64 (hold y + hold v)]) ∧ Below w.heap.size w w' := by
  have b0 := hold_bd x
  have b1 := hold_bd y
  have b2 := hold_bd u
  have b3 := hold_bd v
  go_enter Try.func35, Try.ntmps35
  go_wp2
  refine wp_region_ord (fun w' => w'.cell? ⟨w.heap.size, 0, none⟩ = some (.int .i64 x) ∧ w'.frozen? ⟨w.heap.size, 0, none⟩ = false ∧ w'.cell? ⟨w.heap.size, 1, none⟩ = some (.int .i64 y) ∧ w'.frozen? ⟨w.heap.size, 1, none⟩ = false ∧ w'.cell? ⟨w.heap.size + 1, 0, none⟩ = some (.int .i64 u) ∧ w'.frozen? ⟨w.heap.size + 1, 0, none⟩ = false ∧ w'.cell? ⟨w.heap.size + 1, 1, none⟩ = some (.int .i64 v) ∧ w'.frozen? ⟨w.heap.size + 1, 1, none⟩ = false) (fun W => W.cell? ⟨w.heap.size, 0, none⟩ = some (.int .i64 x) ∧ W.frozen? ⟨w.heap.size, 0, none⟩ = false ∧ W.cell? ⟨w.heap.size, 1, none⟩ = some (.int .i64 y) ∧ W.frozen? ⟨w.heap.size, 1, none⟩ = false ∧ W.cell? ⟨w.heap.size + 1, 0, none⟩ = some (.int .i64 u) ∧ W.frozen? ⟨w.heap.size + 1, 0, none⟩ = false ∧ W.cell? ⟨w.heap.size + 1, 1, none⟩ = some (.int .i64 v) ∧ W.frozen? ⟨w.heap.size + 1, 1, none⟩ = false ∧ W.cell? ⟨w.heap.size + 1 + 1, 0, none⟩ = some (.int .i64 0) ∧ W.frozen? ⟨w.heap.size + 1 + 1, 0, none⟩ = false ∧ W.cell? ⟨w.heap.size + 1 + 1, 1, none⟩ = some (.int .i64 0) ∧ W.frozen? ⟨w.heap.size + 1 + 1, 1, none⟩ = false ∧ Below w.heap.size w W ∧ w.heap.size + 1 + 1 + 1 ≤ W.heap.size) 4 [.val (.agg #[.int .i64 x, .int .i64 y]), .call 29 #[.agg #[.int .i64 x, .int .i64 y]] (.agg #[.int .i64 (hold x), .int .i64 (hold y)]), .val (.agg #[.int .i64 u, .int .i64 v]), .call 29 #[.agg #[.int .i64 u, .int .i64 v]] (.agg #[.int .i64 (hold u), .int .i64 (hold v)])] (by kernel_rfl) (by kernel_rfl) (by rintro w1 w2 ⟨h0, h1, h2, h3, h4, h5, h6, h7⟩ hb; exact ⟨bcs hb h0, bfs hb h0 h1, bcs hb h2, bfs hb h2 h3, bcs hb h4, bfs hb h4 h5, bcs hb h6, bfs hb h6 h7⟩) ⟨by first | with_reducible assumption | go_simp, by first | with_reducible assumption | go_simp, by first | with_reducible assumption | go_simp, by first | with_reducible assumption | go_simp, by first | with_reducible assumption | go_simp, by first | with_reducible assumption | go_simp, by first | with_reducible assumption | go_simp, by first | with_reducible assumption | go_simp, by first | with_reducible assumption | go_simp, by first | with_reducible assumption | go_simp, by first | with_reducible assumption | go_simp, by first | with_reducible assumption | go_simp, by repeat (first | with_reducible exact Below.refl _ _ | fail | with_reducible apply below_drewN | with_reducible apply Below.drew | (with_reducible refine Below.alloc ?_ (by first | (simp; done) | (simp; omega) | omega) _) | (with_reducible refine Below.setCell ?_ (by first | (simp; done) | (simp; omega) | omega) _)), by first | with_reducible assumption | (simp; done) | (simp; omega)⟩ ?_ ?_
  · rintro W ⟨k1_p_0, g1_p_0, k1_p_1, g1_p_1, k1_q_0, g1_q_0, k1_q_1, g1_q_1, k1_r_0, g1_r_0, k1_r_1, g1_r_1, B1, z1⟩; exact ⟨k1_p_0, g1_p_0, k1_p_1, g1_p_1, k1_q_0, g1_q_0, k1_q_1, g1_q_1⟩
  rintro w1 ⟨k1_p_0, g1_p_0, k1_p_1, g1_p_1, k1_q_0, g1_q_0, k1_q_1, g1_q_1, k1_r_0, g1_r_0, k1_r_1, g1_r_1, B1, z1⟩ gg
  simp only [List.take_succ_cons, List.take_zero, List.drop_succ_cons, List.drop_zero, Obs, ob, Sp.get, Sp.news, Act.put, List.setIfInBounds_toArray, List.set_cons_zero, List.set_cons_succ, List.nil_append, List.cons_append, List.append_nil]
  refine ⟨⟨rfl, ?_⟩, ⟨rfl, ?_, ?_⟩, ⟨rfl, ?_⟩, ⟨rfl, ?_, ?_⟩, ?_⟩
  · clear k1_p_0 g1_p_0 k1_p_1 g1_p_1 k1_q_0 g1_q_0 k1_q_1 g1_q_1 k1_r_0 g1_r_0 k1_r_1 g1_r_1 B1 z1; rintro w' ⟨h0, h1, h2, h3, h4, h5, h6, h7⟩; go_simp; try exact IntWalk.i64_in _ (by omega)
  · clear k1_p_0 g1_p_0 k1_p_1 g1_p_1 k1_q_0 g1_q_0 k1_q_1 g1_q_1 k1_r_0 g1_r_0 k1_r_1 g1_r_1 B1 z1; rintro w' ⟨h0, h1, h2, h3, h4, h5, h6, h7⟩; go_simp
  · clear k1_p_0 g1_p_0 k1_p_1 g1_p_1 k1_q_0 g1_q_0 k1_q_1 g1_q_1 k1_r_0 g1_r_0 k1_r_1 g1_r_1 B1 z1; rintro w' ⟨h0, h1, h2, h3, h4, h5, h6, h7⟩; exact vclamp_any x y _
  · clear k1_p_0 g1_p_0 k1_p_1 g1_p_1 k1_q_0 g1_q_0 k1_q_1 g1_q_1 k1_r_0 g1_r_0 k1_r_1 g1_r_1 B1 z1; rintro w' ⟨h0, h1, h2, h3, h4, h5, h6, h7⟩; go_simp; try exact IntWalk.i64_in _ (by omega)
  · clear k1_p_0 g1_p_0 k1_p_1 g1_p_1 k1_q_0 g1_q_0 k1_q_1 g1_q_1 k1_r_0 g1_r_0 k1_r_1 g1_r_1 B1 z1; rintro w' ⟨h0, h1, h2, h3, h4, h5, h6, h7⟩; go_simp
  · clear k1_p_0 g1_p_0 k1_p_1 g1_p_1 k1_q_0 g1_q_0 k1_q_1 g1_q_1 k1_r_0 g1_r_0 k1_r_1 g1_r_1 B1 z1; rintro w' ⟨h0, h1, h2, h3, h4, h5, h6, h7⟩; exact vclamp_any u v _
  rintro w2 ⟨h0, h1, h2, h3, h4, h5, h6, h7⟩ hb2 hF
  clear hF
  have k2_p_0 := bcs hb2 k1_p_0
  have g2_p_0 := bfs hb2 k1_p_0 g1_p_0
  have k2_p_1 := bcs hb2 k1_p_1
  have g2_p_1 := bfs hb2 k1_p_1 g1_p_1
  have k2_q_0 := bcs hb2 k1_q_0
  have g2_q_0 := bfs hb2 k1_q_0 g1_q_0
  have k2_q_1 := bcs hb2 k1_q_1
  have g2_q_1 := bfs hb2 k1_q_1 g1_q_1
  have k2_r_0 := bcs hb2 k1_r_0
  have g2_r_0 := bfs hb2 k1_r_0 g1_r_0
  have k2_r_1 := bcs hb2 k1_r_1
  have g2_r_1 := bfs hb2 k1_r_1 g1_r_1
  clear h0 h1 h2 h3 h4 h5 h6 h7
  have B2 := bel_step B1 hb2
  have z2 := Nat.le_trans z1 hb2.size
  clear hb2
  (try clear B1)
  (try clear z1)
  (try clear k1_p_0)
  (try clear g1_p_0)
  (try clear k1_p_1)
  (try clear g1_p_1)
  (try clear k1_q_0)
  (try clear g1_q_0)
  (try clear k1_q_1)
  (try clear g1_q_1)
  (try clear k1_r_0)
  (try clear g1_r_0)
  (try clear k1_r_1)
  (try clear g1_r_1)
  (try clear q1_p)
  (try clear x1_p)
  (try clear y1_p)
  (try clear q1_q)
  (try clear x1_q)
  (try clear y1_q)
  (try clear q1_r)
  (try clear x1_r)
  (try clear y1_r)
  have q2_p : w.heap.size < w2.heap.size := qlt k2_p_0
  have x2_p : ¬ w.heap.size = w2.heap.size := qne k2_p_0
  have y2_p : ¬ w2.heap.size = w.heap.size := fun h => qne k2_p_0 h.symm
  have q2_q : w.heap.size + 1 < w2.heap.size := qlt k2_q_0
  have x2_q : ¬ w.heap.size + 1 = w2.heap.size := qne k2_q_0
  have y2_q : ¬ w2.heap.size = w.heap.size + 1 := fun h => qne k2_q_0 h.symm
  have q2_r : w.heap.size + 1 + 1 < w2.heap.size := qlt k2_r_0
  have x2_r : ¬ w.heap.size + 1 + 1 = w2.heap.size := qne k2_r_0
  have y2_r : ¬ w2.heap.size = w.heap.size + 1 + 1 := fun h => qne k2_r_0 h.symm
  go_wp2
  refine bodyPost_ret (v := .agg #[.int .i64 (hold x + hold u), .int .i64 (hold y + hold v)]) (by simp [results, Try.results35, go_sem, *]) rfl ⟨rfl, ?_⟩
  repeat (first | with_reducible exact Below.refl _ _ | with_reducible exact B2 | with_reducible apply below_drewN | with_reducible apply Below.drew | (with_reducible refine Below.alloc ?_ (by first | (simp; done) | (simp; omega) | omega) _) | (with_reducible refine Below.setCell ?_ (by first | (simp; done) | (simp; omega) | omega) _))

end Go.Proofs.Ythofacdiajhjmaa
