
import Derived.Test.YthofacdiajhjmaaV3
import Derived.Test.YthofacdiajhjmaaRsq
import Derived.Test.YthofacdiajhjmaaSq
import Derived.Test.YthofacdiajhjmaaLerpNum
import Derived.WalkKit
import Derived.WalkSpells
import Derived.WalkLawsBesides
import Derived.Lib.Hide
import Derived.Below
import Derived.Deep.QuietTactic
import Derived.BigQuiet
import Derived.Deep.RegionHeld3
import Derived.Deep.DrawnRows
import Derived.Deep.DeepFit
import Derived.IntWalk
namespace Go.Proofs.Ythofacdiajhjmaa
open Go.RowKit
set_option linter.unusedVariables false
set_option linter.unusedSimpArgs false
attribute [local go_sem ↓] Go.wp_at_zero Go.wp_at_succ
theorem sq_nonneg (a : Int) : 0 ≤ a * a := by
  rcases Int.le_total 0 a with h | h
  · exact Int.mul_nonneg h h
  · exact Int.mul_nonneg_of_nonpos_of_nonpos h h

set_option maxHeartbeats 1000000 in
theorem vlen_any (x y r : Int) (r0 : 0 ≤ r) (h1 : r * r ≤ 65536 * (hold x * hold x + hold y * hold y)) (h2 : 65536 * (hold x * hold x + hold y * hold y) < (r + 1) * (r + 1)) (r1 : r ≤ 536870912) (w : World) :
    Calls Try.prog 34 #[.agg #[.int .i64 x, .int .i64 y]] w fun e w' => e = .returned (.int .i64 r) ∧ Below w.heap.size w w' := by
  obtain ⟨bx0, bx1⟩ := hold_bd x
  obtain ⟨by0, by1⟩ := hold_bd y
  have mx := mul_bd (hold x) (hold x) 1048576 1048576 (by omega) (by omega) (by omega) (by omega)
  have my := mul_bd (hold y) (hold y) 1048576 1048576 (by omega) (by omega) (by omega) (by omega)
  have sx := sq_nonneg (hold x)
  have sy := sq_nonneg (hold y)
  have cs := fun w => sqrt_any (65536 * (hold x * hold x + hold y * hold y)) r (by omega) (by omega) r0 h1 h2 w
  have H1 := Lib.hid h1
  have H2 := Lib.hid h2
  clear h1 h2
  go_enter Try.func34, Try.ntmps34
  go_wp2_with (first | (go_at_call 46; (with_reducible refine (vdot_any x y x y _).mono ?_); rintro e w1 ⟨rfl, hb1⟩; have k1_p_0 : w1.cell? ⟨w.heap.size, 0, none⟩ = some (.int .i64 x) := bcs hb1 (by go_simp); have g1_p_0 : w1.frozen? ⟨w.heap.size, 0, none⟩ = false := bfs hb1 (v := .int .i64 x) (by go_simp) (by go_simp); have k1_p_1 : w1.cell? ⟨w.heap.size, 1, none⟩ = some (.int .i64 y) := bcs hb1 (by go_simp); have g1_p_1 : w1.frozen? ⟨w.heap.size, 1, none⟩ = false := bfs hb1 (v := .int .i64 y) (by go_simp) (by go_simp); have q1_p : w.heap.size < w1.heap.size := qlt k1_p_0; have x1_p : ¬ w.heap.size = w1.heap.size := qne k1_p_0; have y1_p : ¬ w1.heap.size = w.heap.size := fun h => qne k1_p_0 h.symm; have B1 : Below w.heap.size w w1 := bel_step (by repeat (first | with_reducible exact Below.refl _ _ | fail | with_reducible apply below_drewN | with_reducible apply Below.drew | (with_reducible refine Below.alloc ?_ (by first | (simp; done) | (simp; omega) | omega) _) | (with_reducible refine Below.setCell ?_ (by first | (simp; done) | (simp; omega) | omega) _))) hb1; have z1 : w.heap.size + 1 ≤ w1.heap.size := Nat.le_trans (by first | with_reducible assumption | (simp; done) | (simp; omega)) hb1.size; clear hb1) | (go_at_call 7; (with_reducible refine (cs _).mono ?_); rintro e w9 ⟨rfl, rfl⟩))
  go_ret
  refine ⟨rfl, ?_⟩
  repeat (first | with_reducible exact Below.refl _ _ | with_reducible exact B1 | with_reducible apply below_drewN | with_reducible apply Below.drew | (with_reducible refine Below.alloc ?_ (by first | (simp; done) | (simp; omega) | omega) _) | (with_reducible refine Below.setCell ?_ (by first | (simp; done) | (simp; omega) | omega) _))

set_option maxHeartbeats 2000000 in
theorem vlerp_any (x y u v n d : Int) (w : World) :
    Calls Try.prog 12 #[.agg #[.int .i64 x, .int .i64 y], .agg #[.int .i64 u, .int .i64 v], .int .i64 n, .int .i64 d] w fun e w' => e = .returned (.agg #[.int .i64 (lerpV (hold x) (hold u) n d), .int .i64 (lerpV (hold y) (hold v) n d)]) ∧ Below w.heap.size w w' := by
  obtain ⟨bx0, bx1⟩ := hold_bd x
  obtain ⟨by0, by1⟩ := hold_bd y
  obtain ⟨bu0, bu1⟩ := hold_bd u
  obtain ⟨bv0, bv1⟩ := hold_bd v
  by_cases hd : d < 1 ∨ 1099511627776 < d
  · rw [lerpV_out _ _ _ _ hd, lerpV_out _ _ _ _ hd]
    rcases hd with hd | hd
    · skip
      go_enter Try.func12, Try.ntmps12
      go_wp2
      refine wp_region_ord (fun w' => w'.cell? ⟨w.heap.size, 0, none⟩ = some (.int .i64 x) ∧ w'.frozen? ⟨w.heap.size, 0, none⟩ = false ∧ w'.cell? ⟨w.heap.size, 1, none⟩ = some (.int .i64 y) ∧ w'.frozen? ⟨w.heap.size, 1, none⟩ = false ∧ w'.cell? ⟨w.heap.size + 1, 0, none⟩ = some (.int .i64 u) ∧ w'.frozen? ⟨w.heap.size + 1, 0, none⟩ = false ∧ w'.cell? ⟨w.heap.size + 1, 1, none⟩ = some (.int .i64 v) ∧ w'.frozen? ⟨w.heap.size + 1, 1, none⟩ = false) (fun W => W.cell? ⟨w.heap.size, 0, none⟩ = some (.int .i64 x) ∧ W.frozen? ⟨w.heap.size, 0, none⟩ = false ∧ W.cell? ⟨w.heap.size, 1, none⟩ = some (.int .i64 y) ∧ W.frozen? ⟨w.heap.size, 1, none⟩ = false ∧ W.cell? ⟨w.heap.size + 1, 0, none⟩ = some (.int .i64 u) ∧ W.frozen? ⟨w.heap.size + 1, 0, none⟩ = false ∧ W.cell? ⟨w.heap.size + 1, 1, none⟩ = some (.int .i64 v) ∧ W.frozen? ⟨w.heap.size + 1, 1, none⟩ = false ∧ W.cell? ⟨w.heap.size + 1 + 1, 0, none⟩ = some (.int .i64 0) ∧ W.frozen? ⟨w.heap.size + 1 + 1, 0, none⟩ = false ∧ W.cell? ⟨w.heap.size + 1 + 1, 1, none⟩ = some (.int .i64 0) ∧ W.frozen? ⟨w.heap.size + 1 + 1, 1, none⟩ = false ∧ Below w.heap.size w W ∧ w.heap.size + 1 + 1 + 1 ≤ W.heap.size) 4 [.val (.agg #[.int .i64 x, .int .i64 y]), .call 29 #[.agg #[.int .i64 x, .int .i64 y]] (.agg #[.int .i64 (hold x), .int .i64 (hold y)]), .val (.agg #[.int .i64 u, .int .i64 v]), .call 29 #[.agg #[.int .i64 u, .int .i64 v]] (.agg #[.int .i64 (hold u), .int .i64 (hold v)])] (by kernel_rfl) (by kernel_rfl) (by rintro w1 w2 ⟨h0, h1, h2, h3, h4, h5, h6, h7⟩ hb; exact ⟨bcs hb h0, bfs hb h0 h1, bcs hb h2, bfs hb h2 h3, bcs hb h4, bfs hb h4 h5, bcs hb h6, bfs hb h6 h7⟩) ⟨by first | with_reducible assumption | go_simp, by first | with_reducible assumption | go_simp, by first | with_reducible assumption | go_simp, by first | with_reducible assumption | go_simp, by first | with_reducible assumption | go_simp, by first | with_reducible assumption | go_simp, by first | with_reducible assumption | go_simp, by first | with_reducible assumption | go_simp, by first | with_reducible assumption | go_simp, by first | with_reducible assumption | go_simp, by first | with_reducible assumption | go_simp, by first | with_reducible assumption | go_simp, by repeat (first | with_reducible exact Below.refl _ _ | fail | with_reducible apply below_drewN | with_reducible apply Below.drew | (with_reducible refine Below.alloc ?_ (by first | (simp; done) | (simp; omega) | omega) _) | (with_reducible refine Below.setCell ?_ (by first | (simp; done) | (simp; omega) | omega) _)), by first | with_reducible assumption | (simp; done) | (simp; omega)⟩ ?_ ?_
      · rintro W ⟨k1_a_0, g1_a_0, k1_a_1, g1_a_1, k1_b_0, g1_b_0, k1_b_1, g1_b_1, k1_r_0, g1_r_0, k1_r_1, g1_r_1, B1, z1⟩; exact ⟨k1_a_0, g1_a_0, k1_a_1, g1_a_1, k1_b_0, g1_b_0, k1_b_1, g1_b_1⟩
      rintro w1 ⟨k1_a_0, g1_a_0, k1_a_1, g1_a_1, k1_b_0, g1_b_0, k1_b_1, g1_b_1, k1_r_0, g1_r_0, k1_r_1, g1_r_1, B1, z1⟩ gg
      simp only [List.take_succ_cons, List.take_zero, List.drop_succ_cons, List.drop_zero, Obs, ob, Sp.get, Sp.news, Act.put, List.setIfInBounds_toArray, List.set_cons_zero, List.set_cons_succ, List.nil_append, List.cons_append, List.append_nil]
      refine ⟨⟨rfl, ?_⟩, ⟨rfl, ?_, ?_⟩, ⟨rfl, ?_⟩, ⟨rfl, ?_, ?_⟩, ?_⟩
      · clear k1_a_0 g1_a_0 k1_a_1 g1_a_1 k1_b_0 g1_b_0 k1_b_1 g1_b_1 k1_r_0 g1_r_0 k1_r_1 g1_r_1 B1 z1; rintro w' ⟨h0, h1, h2, h3, h4, h5, h6, h7⟩; go_simp; try exact IntWalk.i64_in _ (by omega)
      · clear k1_a_0 g1_a_0 k1_a_1 g1_a_1 k1_b_0 g1_b_0 k1_b_1 g1_b_1 k1_r_0 g1_r_0 k1_r_1 g1_r_1 B1 z1; rintro w' ⟨h0, h1, h2, h3, h4, h5, h6, h7⟩; go_simp
      · clear k1_a_0 g1_a_0 k1_a_1 g1_a_1 k1_b_0 g1_b_0 k1_b_1 g1_b_1 k1_r_0 g1_r_0 k1_r_1 g1_r_1 B1 z1; rintro w' ⟨h0, h1, h2, h3, h4, h5, h6, h7⟩; exact vclamp_any x y _
      · clear k1_a_0 g1_a_0 k1_a_1 g1_a_1 k1_b_0 g1_b_0 k1_b_1 g1_b_1 k1_r_0 g1_r_0 k1_r_1 g1_r_1 B1 z1; rintro w' ⟨h0, h1, h2, h3, h4, h5, h6, h7⟩; go_simp; try exact IntWalk.i64_in _ (by omega)
      · clear k1_a_0 g1_a_0 k1_a_1 g1_a_1 k1_b_0 g1_b_0 k1_b_1 g1_b_1 k1_r_0 g1_r_0 k1_r_1 g1_r_1 B1 z1; rintro w' ⟨h0, h1, h2, h3, h4, h5, h6, h7⟩; go_simp
      · clear k1_a_0 g1_a_0 k1_a_1 g1_a_1 k1_b_0 g1_b_0 k1_b_1 g1_b_1 k1_r_0 g1_r_0 k1_r_1 g1_r_1 B1 z1; rintro w' ⟨h0, h1, h2, h3, h4, h5, h6, h7⟩; exact vclamp_any u v _
      rintro w2 ⟨h0, h1, h2, h3, h4, h5, h6, h7⟩ hb2 hF
      clear hF
      have k2_a_0 := bcs hb2 k1_a_0
      have g2_a_0 := bfs hb2 k1_a_0 g1_a_0
      have k2_a_1 := bcs hb2 k1_a_1
      have g2_a_1 := bfs hb2 k1_a_1 g1_a_1
      have k2_b_0 := bcs hb2 k1_b_0
      have g2_b_0 := bfs hb2 k1_b_0 g1_b_0
      have k2_b_1 := bcs hb2 k1_b_1
      have g2_b_1 := bfs hb2 k1_b_1 g1_b_1
      have k2_r_0 := bcs hb2 k1_r_0
      have g2_r_0 := bfs hb2 k1_r_0 g1_r_0
      have k2_r_1 := bcs hb2 k1_r_1
      have g2_r_1 := bfs hb2 k1_r_1 g1_r_1
      clear h0 h1 h2 h3 h4 h5 h6 h7
      have B2 := bel_step B1 hb2
      have z2 := Nat.le_trans z1 hb2.size
      clear hb2
      (try clear B1)
      (try clear z1)
      (try clear k1_a_0)
      (try clear g1_a_0)
      (try clear k1_a_1)
      (try clear g1_a_1)
      (try clear k1_b_0)
      (try clear g1_b_0)
      (try clear k1_b_1)
      (try clear g1_b_1)
      (try clear k1_r_0)
      (try clear g1_r_0)
      (try clear k1_r_1)
      (try clear g1_r_1)
      (try clear q1_a)
      (try clear x1_a)
      (try clear y1_a)
      (try clear q1_b)
      (try clear x1_b)
      (try clear y1_b)
      (try clear q1_r)
      (try clear x1_r)
      (try clear y1_r)
      have q2_a : w.heap.size < w2.heap.size := qlt k2_a_0
      have x2_a : ¬ w.heap.size = w2.heap.size := qne k2_a_0
      have y2_a : ¬ w2.heap.size = w.heap.size := fun h => qne k2_a_0 h.symm
      have q2_b : w.heap.size + 1 < w2.heap.size := qlt k2_b_0
      have x2_b : ¬ w.heap.size + 1 = w2.heap.size := qne k2_b_0
      have y2_b : ¬ w2.heap.size = w.heap.size + 1 := fun h => qne k2_b_0 h.symm
      have q2_r : w.heap.size + 1 + 1 < w2.heap.size := qlt k2_r_0
      have x2_r : ¬ w.heap.size + 1 + 1 = w2.heap.size := qne k2_r_0
      have y2_r : ¬ w2.heap.size = w.heap.size + 1 + 1 := fun h => qne k2_r_0 h.symm
      go_wp2
      refine bodyPost_ret (v := .agg #[.int .i64 (hold x), .int .i64 (hold y)]) (by simp [results, Try.results12, go_sem, *]) rfl ⟨rfl, ?_⟩
      repeat (first | with_reducible exact Below.refl _ _ | with_reducible exact B2 | with_reducible apply below_drewN | with_reducible apply Below.drew | (with_reducible refine Below.alloc ?_ (by first | (simp; done) | (simp; omega) | omega) _) | (with_reducible refine Below.setCell ?_ (by first | (simp; done) | (simp; omega) | omega) _))
    · have hd1 : ¬ d < 1 := by omega
      go_enter Try.func12, Try.ntmps12
      go_wp2
      refine wp_region_ord (fun w' => w'.cell? ⟨w.heap.size, 0, none⟩ = some (.int .i64 x) ∧ w'.frozen? ⟨w.heap.size, 0, none⟩ = false ∧ w'.cell? ⟨w.heap.size, 1, none⟩ = some (.int .i64 y) ∧ w'.frozen? ⟨w.heap.size, 1, none⟩ = false ∧ w'.cell? ⟨w.heap.size + 1, 0, none⟩ = some (.int .i64 u) ∧ w'.frozen? ⟨w.heap.size + 1, 0, none⟩ = false ∧ w'.cell? ⟨w.heap.size + 1, 1, none⟩ = some (.int .i64 v) ∧ w'.frozen? ⟨w.heap.size + 1, 1, none⟩ = false) (fun W => W.cell? ⟨w.heap.size, 0, none⟩ = some (.int .i64 x) ∧ W.frozen? ⟨w.heap.size, 0, none⟩ = false ∧ W.cell? ⟨w.heap.size, 1, none⟩ = some (.int .i64 y) ∧ W.frozen? ⟨w.heap.size, 1, none⟩ = false ∧ W.cell? ⟨w.heap.size + 1, 0, none⟩ = some (.int .i64 u) ∧ W.frozen? ⟨w.heap.size + 1, 0, none⟩ = false ∧ W.cell? ⟨w.heap.size + 1, 1, none⟩ = some (.int .i64 v) ∧ W.frozen? ⟨w.heap.size + 1, 1, none⟩ = false ∧ W.cell? ⟨w.heap.size + 1 + 1, 0, none⟩ = some (.int .i64 0) ∧ W.frozen? ⟨w.heap.size + 1 + 1, 0, none⟩ = false ∧ W.cell? ⟨w.heap.size + 1 + 1, 1, none⟩ = some (.int .i64 0) ∧ W.frozen? ⟨w.heap.size + 1 + 1, 1, none⟩ = false ∧ Below w.heap.size w W ∧ w.heap.size + 1 + 1 + 1 ≤ W.heap.size) 4 [.val (.agg #[.int .i64 x, .int .i64 y]), .call 29 #[.agg #[.int .i64 x, .int .i64 y]] (.agg #[.int .i64 (hold x), .int .i64 (hold y)]), .val (.agg #[.int .i64 u, .int .i64 v]), .call 29 #[.agg #[.int .i64 u, .int .i64 v]] (.agg #[.int .i64 (hold u), .int .i64 (hold v)])] (by kernel_rfl) (by kernel_rfl) (by rintro w1 w2 ⟨h0, h1, h2, h3, h4, h5, h6, h7⟩ hb; exact ⟨bcs hb h0, bfs hb h0 h1, bcs hb h2, bfs hb h2 h3, bcs hb h4, bfs hb h4 h5, bcs hb h6, bfs hb h6 h7⟩) ⟨by first | with_reducible assumption | go_simp, by first | with_reducible assumption | go_simp, by first | with_reducible assumption | go_simp, by first | with_reducible assumption | go_simp, by first | with_reducible assumption | go_simp, by first | with_reducible assumption | go_simp, by first | with_reducible assumption | go_simp, by first | with_reducible assumption | go_simp, by first | with_reducible assumption | go_simp, by first | with_reducible assumption | go_simp, by first | with_reducible assumption | go_simp, by first | with_reducible assumption | go_simp, by repeat (first | with_reducible exact Below.refl _ _ | fail | with_reducible apply below_drewN | with_reducible apply Below.drew | (with_reducible refine Below.alloc ?_ (by first | (simp; done) | (simp; omega) | omega) _) | (with_reducible refine Below.setCell ?_ (by first | (simp; done) | (simp; omega) | omega) _)), by first | with_reducible assumption | (simp; done) | (simp; omega)⟩ ?_ ?_
      · rintro W ⟨k1_a_0, g1_a_0, k1_a_1, g1_a_1, k1_b_0, g1_b_0, k1_b_1, g1_b_1, k1_r_0, g1_r_0, k1_r_1, g1_r_1, B1, z1⟩; exact ⟨k1_a_0, g1_a_0, k1_a_1, g1_a_1, k1_b_0, g1_b_0, k1_b_1, g1_b_1⟩
      rintro w1 ⟨k1_a_0, g1_a_0, k1_a_1, g1_a_1, k1_b_0, g1_b_0, k1_b_1, g1_b_1, k1_r_0, g1_r_0, k1_r_1, g1_r_1, B1, z1⟩ gg
      simp only [List.take_succ_cons, List.take_zero, List.drop_succ_cons, List.drop_zero, Obs, ob, Sp.get, Sp.news, Act.put, List.setIfInBounds_toArray, List.set_cons_zero, List.set_cons_succ, List.nil_append, List.cons_append, List.append_nil]
      refine ⟨⟨rfl, ?_⟩, ⟨rfl, ?_, ?_⟩, ⟨rfl, ?_⟩, ⟨rfl, ?_, ?_⟩, ?_⟩
      · clear k1_a_0 g1_a_0 k1_a_1 g1_a_1 k1_b_0 g1_b_0 k1_b_1 g1_b_1 k1_r_0 g1_r_0 k1_r_1 g1_r_1 B1 z1; rintro w' ⟨h0, h1, h2, h3, h4, h5, h6, h7⟩; go_simp; try exact IntWalk.i64_in _ (by omega)
      · clear k1_a_0 g1_a_0 k1_a_1 g1_a_1 k1_b_0 g1_b_0 k1_b_1 g1_b_1 k1_r_0 g1_r_0 k1_r_1 g1_r_1 B1 z1; rintro w' ⟨h0, h1, h2, h3, h4, h5, h6, h7⟩; go_simp
      · clear k1_a_0 g1_a_0 k1_a_1 g1_a_1 k1_b_0 g1_b_0 k1_b_1 g1_b_1 k1_r_0 g1_r_0 k1_r_1 g1_r_1 B1 z1; rintro w' ⟨h0, h1, h2, h3, h4, h5, h6, h7⟩; exact vclamp_any x y _
      · clear k1_a_0 g1_a_0 k1_a_1 g1_a_1 k1_b_0 g1_b_0 k1_b_1 g1_b_1 k1_r_0 g1_r_0 k1_r_1 g1_r_1 B1 z1; rintro w' ⟨h0, h1, h2, h3, h4, h5, h6, h7⟩; go_simp; try exact IntWalk.i64_in _ (by omega)
      · clear k1_a_0 g1_a_0 k1_a_1 g1_a_1 k1_b_0 g1_b_0 k1_b_1 g1_b_1 k1_r_0 g1_r_0 k1_r_1 g1_r_1 B1 z1; rintro w' ⟨h0, h1, h2, h3, h4, h5, h6, h7⟩; go_simp
      · clear k1_a_0 g1_a_0 k1_a_1 g1_a_1 k1_b_0 g1_b_0 k1_b_1 g1_b_1 k1_r_0 g1_r_0 k1_r_1 g1_r_1 B1 z1; rintro w' ⟨h0, h1, h2, h3, h4, h5, h6, h7⟩; exact vclamp_any u v _
      rintro w2 ⟨h0, h1, h2, h3, h4, h5, h6, h7⟩ hb2 hF
      clear hF
      have k2_a_0 := bcs hb2 k1_a_0
      have g2_a_0 := bfs hb2 k1_a_0 g1_a_0
      have k2_a_1 := bcs hb2 k1_a_1
      have g2_a_1 := bfs hb2 k1_a_1 g1_a_1
      have k2_b_0 := bcs hb2 k1_b_0
      have g2_b_0 := bfs hb2 k1_b_0 g1_b_0
      have k2_b_1 := bcs hb2 k1_b_1
      have g2_b_1 := bfs hb2 k1_b_1 g1_b_1
      have k2_r_0 := bcs hb2 k1_r_0
      have g2_r_0 := bfs hb2 k1_r_0 g1_r_0
      have k2_r_1 := bcs hb2 k1_r_1
      have g2_r_1 := bfs hb2 k1_r_1 g1_r_1
      clear h0 h1 h2 h3 h4 h5 h6 h7
      have B2 := bel_step B1 hb2
      have z2 := Nat.le_trans z1 hb2.size
      clear hb2
      (try clear B1)
      (try clear z1)
      (try clear k1_a_0)
      (try clear g1_a_0)
      (try clear k1_a_1)
      (try clear g1_a_1)
      (try clear k1_b_0)
      (try clear g1_b_0)
      (try clear k1_b_1)
      (try clear g1_b_1)
      (try clear k1_r_0)
      (try clear g1_r_0)
      (try clear k1_r_1)
      (try clear g1_r_1)
      (try clear q1_a)
      (try clear x1_a)
      (try clear y1_a)
      (try clear q1_b)
      (try clear x1_b)
      (try clear y1_b)
      (try clear q1_r)
      (try clear x1_r)
      (try clear y1_r)
      have q2_a : w.heap.size < w2.heap.size := qlt k2_a_0
      have x2_a : ¬ w.heap.size = w2.heap.size := qne k2_a_0
      have y2_a : ¬ w2.heap.size = w.heap.size := fun h => qne k2_a_0 h.symm
      have q2_b : w.heap.size + 1 < w2.heap.size := qlt k2_b_0
      have x2_b : ¬ w.heap.size + 1 = w2.heap.size := qne k2_b_0
      have y2_b : ¬ w2.heap.size = w.heap.size + 1 := fun h => qne k2_b_0 h.symm
      have q2_r : w.heap.size + 1 + 1 < w2.heap.size := qlt k2_r_0
      have x2_r : ¬ w.heap.size + 1 + 1 = w2.heap.size := qne k2_r_0
      have y2_r : ¬ w2.heap.size = w.heap.size + 1 + 1 := fun h => qne k2_r_0 h.symm
      go_wp2
      refine bodyPost_ret (v := .agg #[.int .i64 (hold x), .int .i64 (hold y)]) (by simp [results, Try.results12, go_sem, *]) rfl ⟨rfl, ?_⟩
      repeat (first | with_reducible exact Below.refl _ _ | with_reducible exact B2 | with_reducible apply below_drewN | with_reducible apply Below.drew | (with_reducible refine Below.alloc ?_ (by first | (simp; done) | (simp; omega) | omega) _) | (with_reducible refine Below.setCell ?_ (by first | (simp; done) | (simp; omega) | omega) _))
  · have hd0 : 1 ≤ d := by omega
    have hd1 : d ≤ 1099511627776 := by omega
    rw [lerpV_in _ _ _ _ hd0 hd1, lerpV_in _ _ _ _ hd0 hd1]
    have cc := fun w => clamp_any n 0 d w
    obtain ⟨k, ek⟩ : ∃ k, clampV n 0 d = k := ⟨_, rfl⟩
    have hk := clampV_bd n 0 d (by omega)
    rw [ek] at cc hk ⊢
    clear ek hd
    obtain ⟨hk0, hk1⟩ := hk
    obtain ⟨px0, px1, px2, px3⟩ := rdiv_between k (hold u - hold x) d hd0 hd1 hk0 hk1 (by omega) (by omega)
    obtain ⟨py0, py1, py2, py3⟩ := rdiv_between k (hold v - hold y) d hd0 hd1 hk0 hk1 (by omega) (by omega)
    have rx : -2097152 ≤ mdrV (k * (hold u - hold x)) 1 d ∧ mdrV (k * (hold u - hold x)) 1 d ≤ 2097152 := by omega
    have ry : -2097152 ≤ mdrV (k * (hold v - hold y)) 1 d ∧ mdrV (k * (hold v - hold y)) 1 d ≤ 2097152 := by omega
    clear px2 px3 py2 py3
    have dx : ∀ w, Calls Try.prog 9 #[.int .i64 (k * (hold u - hold x)), .int .i64 d] w fun e w' => e = .returned (.int .i64 (mdrV (k * (hold u - hold x)) 1 d)) ∧ Below w.heap.size w w' := fun w => (divRound_any _ d (by omega) (by omega) (by omega) (by omega) w).mono (by rintro e w2 ⟨rfl, nd, rfl⟩; exact ⟨rfl, below_drewN (Below.refl _ _) _⟩)
    have dy : ∀ w, Calls Try.prog 9 #[.int .i64 (k * (hold v - hold y)), .int .i64 d] w fun e w' => e = .returned (.int .i64 (mdrV (k * (hold v - hold y)) 1 d)) ∧ Below w.heap.size w w' := fun w => (divRound_any _ d (by omega) (by omega) (by omega) (by omega) w).mono (by rintro e w2 ⟨rfl, nd, rfl⟩; exact ⟨rfl, below_drewN (Below.refl _ _) _⟩)
    go_enter Try.func12, Try.ntmps12
    go_wp2
    refine wp_region_ord (fun w' => w'.cell? ⟨w.heap.size, 0, none⟩ = some (.int .i64 x) ∧ w'.frozen? ⟨w.heap.size, 0, none⟩ = false ∧ w'.cell? ⟨w.heap.size, 1, none⟩ = some (.int .i64 y) ∧ w'.frozen? ⟨w.heap.size, 1, none⟩ = false ∧ w'.cell? ⟨w.heap.size + 1, 0, none⟩ = some (.int .i64 u) ∧ w'.frozen? ⟨w.heap.size + 1, 0, none⟩ = false ∧ w'.cell? ⟨w.heap.size + 1, 1, none⟩ = some (.int .i64 v) ∧ w'.frozen? ⟨w.heap.size + 1, 1, none⟩ = false) (fun W => W.cell? ⟨w.heap.size, 0, none⟩ = some (.int .i64 x) ∧ W.frozen? ⟨w.heap.size, 0, none⟩ = false ∧ W.cell? ⟨w.heap.size, 1, none⟩ = some (.int .i64 y) ∧ W.frozen? ⟨w.heap.size, 1, none⟩ = false ∧ W.cell? ⟨w.heap.size + 1, 0, none⟩ = some (.int .i64 u) ∧ W.frozen? ⟨w.heap.size + 1, 0, none⟩ = false ∧ W.cell? ⟨w.heap.size + 1, 1, none⟩ = some (.int .i64 v) ∧ W.frozen? ⟨w.heap.size + 1, 1, none⟩ = false ∧ W.cell? ⟨w.heap.size + 1 + 1, 0, none⟩ = some (.int .i64 0) ∧ W.frozen? ⟨w.heap.size + 1 + 1, 0, none⟩ = false ∧ W.cell? ⟨w.heap.size + 1 + 1, 1, none⟩ = some (.int .i64 0) ∧ W.frozen? ⟨w.heap.size + 1 + 1, 1, none⟩ = false ∧ Below w.heap.size w W ∧ w.heap.size + 1 + 1 + 1 ≤ W.heap.size) 4 [.val (.agg #[.int .i64 x, .int .i64 y]), .call 29 #[.agg #[.int .i64 x, .int .i64 y]] (.agg #[.int .i64 (hold x), .int .i64 (hold y)]), .val (.agg #[.int .i64 u, .int .i64 v]), .call 29 #[.agg #[.int .i64 u, .int .i64 v]] (.agg #[.int .i64 (hold u), .int .i64 (hold v)])] (by kernel_rfl) (by kernel_rfl) (by rintro w1 w2 ⟨h0, h1, h2, h3, h4, h5, h6, h7⟩ hb; exact ⟨bcs hb h0, bfs hb h0 h1, bcs hb h2, bfs hb h2 h3, bcs hb h4, bfs hb h4 h5, bcs hb h6, bfs hb h6 h7⟩) ⟨by first | with_reducible assumption | go_simp, by first | with_reducible assumption | go_simp, by first | with_reducible assumption | go_simp, by first | with_reducible assumption | go_simp, by first | with_reducible assumption | go_simp, by first | with_reducible assumption | go_simp, by first | with_reducible assumption | go_simp, by first | with_reducible assumption | go_simp, by first | with_reducible assumption | go_simp, by first | with_reducible assumption | go_simp, by first | with_reducible assumption | go_simp, by first | with_reducible assumption | go_simp, by repeat (first | with_reducible exact Below.refl _ _ | fail | with_reducible apply below_drewN | with_reducible apply Below.drew | (with_reducible refine Below.alloc ?_ (by first | (simp; done) | (simp; omega) | omega) _) | (with_reducible refine Below.setCell ?_ (by first | (simp; done) | (simp; omega) | omega) _)), by first | with_reducible assumption | (simp; done) | (simp; omega)⟩ ?_ ?_
    · rintro W ⟨k1_a_0, g1_a_0, k1_a_1, g1_a_1, k1_b_0, g1_b_0, k1_b_1, g1_b_1, k1_r_0, g1_r_0, k1_r_1, g1_r_1, B1, z1⟩; exact ⟨k1_a_0, g1_a_0, k1_a_1, g1_a_1, k1_b_0, g1_b_0, k1_b_1, g1_b_1⟩
    rintro w1 ⟨k1_a_0, g1_a_0, k1_a_1, g1_a_1, k1_b_0, g1_b_0, k1_b_1, g1_b_1, k1_r_0, g1_r_0, k1_r_1, g1_r_1, B1, z1⟩ gg
    simp only [List.take_succ_cons, List.take_zero, List.drop_succ_cons, List.drop_zero, Obs, ob, Sp.get, Sp.news, Act.put, List.setIfInBounds_toArray, List.set_cons_zero, List.set_cons_succ, List.nil_append, List.cons_append, List.append_nil]
    refine ⟨⟨rfl, ?_⟩, ⟨rfl, ?_, ?_⟩, ⟨rfl, ?_⟩, ⟨rfl, ?_, ?_⟩, ?_⟩
    · clear k1_a_0 g1_a_0 k1_a_1 g1_a_1 k1_b_0 g1_b_0 k1_b_1 g1_b_1 k1_r_0 g1_r_0 k1_r_1 g1_r_1 B1 z1; rintro w' ⟨h0, h1, h2, h3, h4, h5, h6, h7⟩; go_simp; try exact IntWalk.i64_in _ (by omega)
    · clear k1_a_0 g1_a_0 k1_a_1 g1_a_1 k1_b_0 g1_b_0 k1_b_1 g1_b_1 k1_r_0 g1_r_0 k1_r_1 g1_r_1 B1 z1; rintro w' ⟨h0, h1, h2, h3, h4, h5, h6, h7⟩; go_simp
    · clear k1_a_0 g1_a_0 k1_a_1 g1_a_1 k1_b_0 g1_b_0 k1_b_1 g1_b_1 k1_r_0 g1_r_0 k1_r_1 g1_r_1 B1 z1; rintro w' ⟨h0, h1, h2, h3, h4, h5, h6, h7⟩; exact vclamp_any x y _
    · clear k1_a_0 g1_a_0 k1_a_1 g1_a_1 k1_b_0 g1_b_0 k1_b_1 g1_b_1 k1_r_0 g1_r_0 k1_r_1 g1_r_1 B1 z1; rintro w' ⟨h0, h1, h2, h3, h4, h5, h6, h7⟩; go_simp; try exact IntWalk.i64_in _ (by omega)
    · clear k1_a_0 g1_a_0 k1_a_1 g1_a_1 k1_b_0 g1_b_0 k1_b_1 g1_b_1 k1_r_0 g1_r_0 k1_r_1 g1_r_1 B1 z1; rintro w' ⟨h0, h1, h2, h3, h4, h5, h6, h7⟩; go_simp
    · clear k1_a_0 g1_a_0 k1_a_1 g1_a_1 k1_b_0 g1_b_0 k1_b_1 g1_b_1 k1_r_0 g1_r_0 k1_r_1 g1_r_1 B1 z1; rintro w' ⟨h0, h1, h2, h3, h4, h5, h6, h7⟩; exact vclamp_any u v _
    rintro w2 ⟨h0, h1, h2, h3, h4, h5, h6, h7⟩ hb2 hF
    clear hF
    have k2_a_0 := bcs hb2 k1_a_0
    have g2_a_0 := bfs hb2 k1_a_0 g1_a_0
    have k2_a_1 := bcs hb2 k1_a_1
    have g2_a_1 := bfs hb2 k1_a_1 g1_a_1
    have k2_b_0 := bcs hb2 k1_b_0
    have g2_b_0 := bfs hb2 k1_b_0 g1_b_0
    have k2_b_1 := bcs hb2 k1_b_1
    have g2_b_1 := bfs hb2 k1_b_1 g1_b_1
    have k2_r_0 := bcs hb2 k1_r_0
    have g2_r_0 := bfs hb2 k1_r_0 g1_r_0
    have k2_r_1 := bcs hb2 k1_r_1
    have g2_r_1 := bfs hb2 k1_r_1 g1_r_1
    clear h0 h1 h2 h3 h4 h5 h6 h7
    have B2 := bel_step B1 hb2
    have z2 := Nat.le_trans z1 hb2.size
    clear hb2
    (try clear B1)
    (try clear z1)
    (try clear k1_a_0)
    (try clear g1_a_0)
    (try clear k1_a_1)
    (try clear g1_a_1)
    (try clear k1_b_0)
    (try clear g1_b_0)
    (try clear k1_b_1)
    (try clear g1_b_1)
    (try clear k1_r_0)
    (try clear g1_r_0)
    (try clear k1_r_1)
    (try clear g1_r_1)
    (try clear q1_a)
    (try clear x1_a)
    (try clear y1_a)
    (try clear q1_b)
    (try clear x1_b)
    (try clear y1_b)
    (try clear q1_r)
    (try clear x1_r)
    (try clear y1_r)
    have q2_a : w.heap.size < w2.heap.size := qlt k2_a_0
    have x2_a : ¬ w.heap.size = w2.heap.size := qne k2_a_0
    have y2_a : ¬ w2.heap.size = w.heap.size := fun h => qne k2_a_0 h.symm
    have q2_b : w.heap.size + 1 < w2.heap.size := qlt k2_b_0
    have x2_b : ¬ w.heap.size + 1 = w2.heap.size := qne k2_b_0
    have y2_b : ¬ w2.heap.size = w.heap.size + 1 := fun h => qne k2_b_0 h.symm
    have q2_r : w.heap.size + 1 + 1 < w2.heap.size := qlt k2_r_0
    have x2_r : ¬ w.heap.size + 1 + 1 = w2.heap.size := qne k2_r_0
    have y2_r : ¬ w2.heap.size = w.heap.size + 1 + 1 := fun h => qne k2_r_0 h.symm
    go_wp2_with (first | (go_at_call 28; (with_reducible refine (cc _).mono ?_); rintro e w9 ⟨rfl, rfl⟩) | (go_at_call 30; (with_reducible refine (between_any (hold x) (hold y) (hold u) (hold v) (by omega) (by omega) (by omega) (by omega) (by omega) (by omega) (by omega) (by omega) _).mono ?_); rintro e w3 ⟨rfl, hb3⟩; have k3_a_0 : w3.cell? ⟨w.heap.size, 0, none⟩ = some (.int .i64 (hold x)) := bcs hb3 (by go_simp); have g3_a_0 : w3.frozen? ⟨w.heap.size, 0, none⟩ = false := bfs hb3 (v := .int .i64 (hold x)) (by go_simp) (by go_simp); have k3_a_1 : w3.cell? ⟨w.heap.size, 1, none⟩ = some (.int .i64 (hold y)) := bcs hb3 (by go_simp); have g3_a_1 : w3.frozen? ⟨w.heap.size, 1, none⟩ = false := bfs hb3 (v := .int .i64 (hold y)) (by go_simp) (by go_simp); have k3_b_0 : w3.cell? ⟨w.heap.size + 1, 0, none⟩ = some (.int .i64 (hold u)) := bcs hb3 (by go_simp); have g3_b_0 : w3.frozen? ⟨w.heap.size + 1, 0, none⟩ = false := bfs hb3 (v := .int .i64 (hold u)) (by go_simp) (by go_simp); have k3_b_1 : w3.cell? ⟨w.heap.size + 1, 1, none⟩ = some (.int .i64 (hold v)) := bcs hb3 (by go_simp); have g3_b_1 : w3.frozen? ⟨w.heap.size + 1, 1, none⟩ = false := bfs hb3 (v := .int .i64 (hold v)) (by go_simp) (by go_simp); have k3_r_0 : w3.cell? ⟨w.heap.size + 1 + 1, 0, none⟩ = some (.int .i64 0) := bcs hb3 (by go_simp); have g3_r_0 : w3.frozen? ⟨w.heap.size + 1 + 1, 0, none⟩ = false := bfs hb3 (v := .int .i64 0) (by go_simp) (by go_simp); have k3_r_1 : w3.cell? ⟨w.heap.size + 1 + 1, 1, none⟩ = some (.int .i64 0) := bcs hb3 (by go_simp); have g3_r_1 : w3.frozen? ⟨w.heap.size + 1 + 1, 1, none⟩ = false := bfs hb3 (v := .int .i64 0) (by go_simp) (by go_simp); have q3_a : w.heap.size < w3.heap.size := qlt k3_a_0; have x3_a : ¬ w.heap.size = w3.heap.size := qne k3_a_0; have y3_a : ¬ w3.heap.size = w.heap.size := fun h => qne k3_a_0 h.symm; have q3_b : w.heap.size + 1 < w3.heap.size := qlt k3_b_0; have x3_b : ¬ w.heap.size + 1 = w3.heap.size := qne k3_b_0; have y3_b : ¬ w3.heap.size = w.heap.size + 1 := fun h => qne k3_b_0 h.symm; have q3_r : w.heap.size + 1 + 1 < w3.heap.size := qlt k3_r_0; have x3_r : ¬ w.heap.size + 1 + 1 = w3.heap.size := qne k3_r_0; have y3_r : ¬ w3.heap.size = w.heap.size + 1 + 1 := fun h => qne k3_r_0 h.symm; have B3 : Below w.heap.size w w3 := bel_step (by repeat (first | with_reducible exact Below.refl _ _ | with_reducible exact B2 | with_reducible apply below_drewN | with_reducible apply Below.drew | (with_reducible refine Below.alloc ?_ (by first | (simp; done) | (simp; omega) | omega) _) | (with_reducible refine Below.setCell ?_ (by first | (simp; done) | (simp; omega) | omega) _))) hb3; have z3 : w.heap.size + 1 + 1 + 1 ≤ w3.heap.size := Nat.le_trans (by first | with_reducible assumption | (simp; done) | (simp; omega)) hb3.size; clear hb3; (try clear k2_a_0); (try clear g2_a_0); (try clear k2_a_1); (try clear g2_a_1); (try clear k2_b_0); (try clear g2_b_0); (try clear k2_b_1); (try clear g2_b_1); (try clear k2_r_0); (try clear g2_r_0); (try clear k2_r_1); (try clear g2_r_1); (try clear B2); (try clear z2); (try clear q2_a); (try clear x2_a); (try clear y2_a); (try clear q2_b); (try clear x2_b); (try clear y2_b); (try clear q2_r); (try clear x2_r); (try clear y2_r)))
    refine wp_region_ord (fun w' => w'.cell? ⟨w.heap.size, 0, none⟩ = some (.int .i64 (hold x)) ∧ w'.frozen? ⟨w.heap.size, 0, none⟩ = false ∧ w'.cell? ⟨w.heap.size, 1, none⟩ = some (.int .i64 (hold y)) ∧ w'.frozen? ⟨w.heap.size, 1, none⟩ = false ∧ w'.cell? ⟨w.heap.size + 1, 0, none⟩ = some (.int .i64 (hold u)) ∧ w'.frozen? ⟨w.heap.size + 1, 0, none⟩ = false ∧ w'.cell? ⟨w.heap.size + 1, 1, none⟩ = some (.int .i64 (hold v)) ∧ w'.frozen? ⟨w.heap.size + 1, 1, none⟩ = false ∧ w'.cell? ⟨w.heap.size + 1 + 1, 0, none⟩ = some (.int .i64 0) ∧ w'.frozen? ⟨w.heap.size + 1 + 1, 0, none⟩ = false ∧ w'.cell? ⟨w.heap.size + 1 + 1, 1, none⟩ = some (.int .i64 0) ∧ w'.frozen? ⟨w.heap.size + 1 + 1, 1, none⟩ = false ∧ w'.cell? ⟨w3.heap.size, 0, none⟩ = some (.int .i64 (hold u - hold x)) ∧ w'.frozen? ⟨w3.heap.size, 0, none⟩ = false ∧ w'.cell? ⟨w3.heap.size, 1, none⟩ = some (.int .i64 (hold v - hold y)) ∧ w'.frozen? ⟨w3.heap.size, 1, none⟩ = false) (fun W => W.cell? ⟨w.heap.size, 0, none⟩ = some (.int .i64 (hold x)) ∧ W.frozen? ⟨w.heap.size, 0, none⟩ = false ∧ W.cell? ⟨w.heap.size, 1, none⟩ = some (.int .i64 (hold y)) ∧ W.frozen? ⟨w.heap.size, 1, none⟩ = false ∧ W.cell? ⟨w.heap.size + 1, 0, none⟩ = some (.int .i64 (hold u)) ∧ W.frozen? ⟨w.heap.size + 1, 0, none⟩ = false ∧ W.cell? ⟨w.heap.size + 1, 1, none⟩ = some (.int .i64 (hold v)) ∧ W.frozen? ⟨w.heap.size + 1, 1, none⟩ = false ∧ W.cell? ⟨w.heap.size + 1 + 1, 0, none⟩ = some (.int .i64 0) ∧ W.frozen? ⟨w.heap.size + 1 + 1, 0, none⟩ = false ∧ W.cell? ⟨w.heap.size + 1 + 1, 1, none⟩ = some (.int .i64 0) ∧ W.frozen? ⟨w.heap.size + 1 + 1, 1, none⟩ = false ∧ W.cell? ⟨w3.heap.size, 0, none⟩ = some (.int .i64 (hold u - hold x)) ∧ W.frozen? ⟨w3.heap.size, 0, none⟩ = false ∧ W.cell? ⟨w3.heap.size, 1, none⟩ = some (.int .i64 (hold v - hold y)) ∧ W.frozen? ⟨w3.heap.size, 1, none⟩ = false ∧ Below w.heap.size w W ∧ w.heap.size + 1 + 1 + 1 ≤ W.heap.size) 19 [.val (.pointer (some ⟨w.heap.size, 0, none⟩)), .val (.int .i64 (hold x)), .val (.int .i64 k), .val (.pointer (some ⟨w3.heap.size, 0, none⟩)), .val (.int .i64 (hold u - hold x)), .val (.int .i64 (k * (hold u - hold x))), .val (.int .i64 d), .call 9 #[.int .i64 (k * (hold u - hold x)), .int .i64 d] (.int .i64 (mdrV (k * (hold u - hold x)) 1 d)), .val (.int .i64 (hold x + mdrV (k * (hold u - hold x)) 1 d)), .val (.pointer (some ⟨w.heap.size, 1, none⟩)), .val (.int .i64 (hold y)), .val (.int .i64 k), .val (.pointer (some ⟨w3.heap.size, 1, none⟩)), .val (.int .i64 (hold v - hold y)), .val (.int .i64 (k * (hold v - hold y))), .val (.int .i64 d), .call 9 #[.int .i64 (k * (hold v - hold y)), .int .i64 d] (.int .i64 (mdrV (k * (hold v - hold y)) 1 d)), .val (.int .i64 (hold y + mdrV (k * (hold v - hold y)) 1 d)), .val (.agg #[.int .i64 (hold x + mdrV (k * (hold u - hold x)) 1 d), .int .i64 (hold y + mdrV (k * (hold v - hold y)) 1 d)])] (by kernel_rfl) (by kernel_rfl) (by rintro w1 w2 ⟨h0, h1, h2, h3, h4, h5, h6, h7, h8, h9, h10, h11, h12, h13, h14, h15⟩ hb; exact ⟨bcs hb h0, bfs hb h0 h1, bcs hb h2, bfs hb h2 h3, bcs hb h4, bfs hb h4 h5, bcs hb h6, bfs hb h6 h7, bcs hb h8, bfs hb h8 h9, bcs hb h10, bfs hb h10 h11, bcs hb h12, bfs hb h12 h13, bcs hb h14, bfs hb h14 h15⟩) ⟨by first | with_reducible assumption | go_simp, by first | with_reducible assumption | go_simp, by first | with_reducible assumption | go_simp, by first | with_reducible assumption | go_simp, by first | with_reducible assumption | go_simp, by first | with_reducible assumption | go_simp, by first | with_reducible assumption | go_simp, by first | with_reducible assumption | go_simp, by first | with_reducible assumption | go_simp, by first | with_reducible assumption | go_simp, by first | with_reducible assumption | go_simp, by first | with_reducible assumption | go_simp, by first | with_reducible assumption | go_simp, by first | with_reducible assumption | go_simp, by first | with_reducible assumption | go_simp, by first | with_reducible assumption | go_simp, by repeat (first | with_reducible exact Below.refl _ _ | with_reducible exact B3 | with_reducible apply below_drewN | with_reducible apply Below.drew | (with_reducible refine Below.alloc ?_ (by first | (simp; done) | (simp; omega) | omega) _) | (with_reducible refine Below.setCell ?_ (by first | (simp; done) | (simp; omega) | omega) _)), by first | with_reducible assumption | (simp; done) | (simp; omega)⟩ ?_ ?_
    · rintro W ⟨k4_a_0, g4_a_0, k4_a_1, g4_a_1, k4_b_0, g4_b_0, k4_b_1, g4_b_1, k4_r_0, g4_r_0, k4_r_1, g4_r_1, k4_way_0, g4_way_0, k4_way_1, g4_way_1, B4, z4⟩; exact ⟨k4_a_0, g4_a_0, k4_a_1, g4_a_1, k4_b_0, g4_b_0, k4_b_1, g4_b_1, k4_r_0, g4_r_0, k4_r_1, g4_r_1, k4_way_0, g4_way_0, k4_way_1, g4_way_1⟩
    (try clear B3)
    (try clear z3)
    (try clear k3_a_0)
    (try clear g3_a_0)
    (try clear k3_a_1)
    (try clear g3_a_1)
    (try clear k3_b_0)
    (try clear g3_b_0)
    (try clear k3_b_1)
    (try clear g3_b_1)
    (try clear k3_r_0)
    (try clear g3_r_0)
    (try clear k3_r_1)
    (try clear g3_r_1)
    (try clear k3_way_0)
    (try clear g3_way_0)
    (try clear k3_way_1)
    (try clear g3_way_1)
    (try clear q3_a)
    (try clear x3_a)
    (try clear y3_a)
    (try clear q3_b)
    (try clear x3_b)
    (try clear y3_b)
    (try clear q3_r)
    (try clear x3_r)
    (try clear y3_r)
    (try clear q3_way)
    (try clear x3_way)
    (try clear y3_way)
    rintro w4 ⟨k4_a_0, g4_a_0, k4_a_1, g4_a_1, k4_b_0, g4_b_0, k4_b_1, g4_b_1, k4_r_0, g4_r_0, k4_r_1, g4_r_1, k4_way_0, g4_way_0, k4_way_1, g4_way_1, B4, z4⟩ gg
    simp only [List.take_succ_cons, List.take_zero, List.drop_succ_cons, List.drop_zero, Obs, ob, Sp.get, Sp.news, Act.put, List.setIfInBounds_toArray, List.set_cons_zero, List.set_cons_succ, List.nil_append, List.cons_append, List.append_nil]
    refine ⟨⟨rfl, ?_⟩, ⟨rfl, ?_⟩, ⟨rfl, ?_⟩, ⟨rfl, ?_⟩, ⟨rfl, ?_⟩, ⟨rfl, ?_⟩, ⟨rfl, ?_⟩, ⟨rfl, ?_, ?_⟩, ⟨rfl, ?_⟩, ⟨rfl, ?_⟩, ⟨rfl, ?_⟩, ⟨rfl, ?_⟩, ⟨rfl, ?_⟩, ⟨rfl, ?_⟩, ⟨rfl, ?_⟩, ⟨rfl, ?_⟩, ⟨rfl, ?_, ?_⟩, ⟨rfl, ?_⟩, ⟨rfl, ?_⟩, ?_⟩
    · clear k4_a_0 g4_a_0 k4_a_1 g4_a_1 k4_b_0 g4_b_0 k4_b_1 g4_b_1 k4_r_0 g4_r_0 k4_r_1 g4_r_1 k4_way_0 g4_way_0 k4_way_1 g4_way_1 B4 z4; rintro w' ⟨h0, h1, h2, h3, h4, h5, h6, h7, h8, h9, h10, h11, h12, h13, h14, h15⟩; go_simp; try exact IntWalk.i64_in _ (by omega)
    · clear k4_a_0 g4_a_0 k4_a_1 g4_a_1 k4_b_0 g4_b_0 k4_b_1 g4_b_1 k4_r_0 g4_r_0 k4_r_1 g4_r_1 k4_way_0 g4_way_0 k4_way_1 g4_way_1 B4 z4; rintro w' ⟨h0, h1, h2, h3, h4, h5, h6, h7, h8, h9, h10, h11, h12, h13, h14, h15⟩; go_simp; try exact IntWalk.i64_in _ (by omega)
    · clear k4_a_0 g4_a_0 k4_a_1 g4_a_1 k4_b_0 g4_b_0 k4_b_1 g4_b_1 k4_r_0 g4_r_0 k4_r_1 g4_r_1 k4_way_0 g4_way_0 k4_way_1 g4_way_1 B4 z4; rintro w' ⟨h0, h1, h2, h3, h4, h5, h6, h7, h8, h9, h10, h11, h12, h13, h14, h15⟩; go_simp; try exact IntWalk.i64_in _ (by omega)
    · clear k4_a_0 g4_a_0 k4_a_1 g4_a_1 k4_b_0 g4_b_0 k4_b_1 g4_b_1 k4_r_0 g4_r_0 k4_r_1 g4_r_1 k4_way_0 g4_way_0 k4_way_1 g4_way_1 B4 z4; rintro w' ⟨h0, h1, h2, h3, h4, h5, h6, h7, h8, h9, h10, h11, h12, h13, h14, h15⟩; go_simp; try exact IntWalk.i64_in _ (by omega)
    · clear k4_a_0 g4_a_0 k4_a_1 g4_a_1 k4_b_0 g4_b_0 k4_b_1 g4_b_1 k4_r_0 g4_r_0 k4_r_1 g4_r_1 k4_way_0 g4_way_0 k4_way_1 g4_way_1 B4 z4; rintro w' ⟨h0, h1, h2, h3, h4, h5, h6, h7, h8, h9, h10, h11, h12, h13, h14, h15⟩; go_simp; try exact IntWalk.i64_in _ (by omega)
    · clear k4_a_0 g4_a_0 k4_a_1 g4_a_1 k4_b_0 g4_b_0 k4_b_1 g4_b_1 k4_r_0 g4_r_0 k4_r_1 g4_r_1 k4_way_0 g4_way_0 k4_way_1 g4_way_1 B4 z4; rintro w' ⟨h0, h1, h2, h3, h4, h5, h6, h7, h8, h9, h10, h11, h12, h13, h14, h15⟩; go_simp; try exact IntWalk.i64_in _ (by omega)
    · clear k4_a_0 g4_a_0 k4_a_1 g4_a_1 k4_b_0 g4_b_0 k4_b_1 g4_b_1 k4_r_0 g4_r_0 k4_r_1 g4_r_1 k4_way_0 g4_way_0 k4_way_1 g4_way_1 B4 z4; rintro w' ⟨h0, h1, h2, h3, h4, h5, h6, h7, h8, h9, h10, h11, h12, h13, h14, h15⟩; go_simp; try exact IntWalk.i64_in _ (by omega)
    · clear k4_a_0 g4_a_0 k4_a_1 g4_a_1 k4_b_0 g4_b_0 k4_b_1 g4_b_1 k4_r_0 g4_r_0 k4_r_1 g4_r_1 k4_way_0 g4_way_0 k4_way_1 g4_way_1 B4 z4; rintro w' ⟨h0, h1, h2, h3, h4, h5, h6, h7, h8, h9, h10, h11, h12, h13, h14, h15⟩; go_simp
    · clear k4_a_0 g4_a_0 k4_a_1 g4_a_1 k4_b_0 g4_b_0 k4_b_1 g4_b_1 k4_r_0 g4_r_0 k4_r_1 g4_r_1 k4_way_0 g4_way_0 k4_way_1 g4_way_1 B4 z4; rintro w' ⟨h0, h1, h2, h3, h4, h5, h6, h7, h8, h9, h10, h11, h12, h13, h14, h15⟩; exact dx _
    · clear k4_a_0 g4_a_0 k4_a_1 g4_a_1 k4_b_0 g4_b_0 k4_b_1 g4_b_1 k4_r_0 g4_r_0 k4_r_1 g4_r_1 k4_way_0 g4_way_0 k4_way_1 g4_way_1 B4 z4; rintro w' ⟨h0, h1, h2, h3, h4, h5, h6, h7, h8, h9, h10, h11, h12, h13, h14, h15⟩; go_simp; try exact IntWalk.i64_in _ (by omega)
    · clear k4_a_0 g4_a_0 k4_a_1 g4_a_1 k4_b_0 g4_b_0 k4_b_1 g4_b_1 k4_r_0 g4_r_0 k4_r_1 g4_r_1 k4_way_0 g4_way_0 k4_way_1 g4_way_1 B4 z4; rintro w' ⟨h0, h1, h2, h3, h4, h5, h6, h7, h8, h9, h10, h11, h12, h13, h14, h15⟩; go_simp; try exact IntWalk.i64_in _ (by omega)
    · clear k4_a_0 g4_a_0 k4_a_1 g4_a_1 k4_b_0 g4_b_0 k4_b_1 g4_b_1 k4_r_0 g4_r_0 k4_r_1 g4_r_1 k4_way_0 g4_way_0 k4_way_1 g4_way_1 B4 z4; rintro w' ⟨h0, h1, h2, h3, h4, h5, h6, h7, h8, h9, h10, h11, h12, h13, h14, h15⟩; go_simp; try exact IntWalk.i64_in _ (by omega)
    · clear k4_a_0 g4_a_0 k4_a_1 g4_a_1 k4_b_0 g4_b_0 k4_b_1 g4_b_1 k4_r_0 g4_r_0 k4_r_1 g4_r_1 k4_way_0 g4_way_0 k4_way_1 g4_way_1 B4 z4; rintro w' ⟨h0, h1, h2, h3, h4, h5, h6, h7, h8, h9, h10, h11, h12, h13, h14, h15⟩; go_simp; try exact IntWalk.i64_in _ (by omega)
    · clear k4_a_0 g4_a_0 k4_a_1 g4_a_1 k4_b_0 g4_b_0 k4_b_1 g4_b_1 k4_r_0 g4_r_0 k4_r_1 g4_r_1 k4_way_0 g4_way_0 k4_way_1 g4_way_1 B4 z4; rintro w' ⟨h0, h1, h2, h3, h4, h5, h6, h7, h8, h9, h10, h11, h12, h13, h14, h15⟩; go_simp; try exact IntWalk.i64_in _ (by omega)
    · clear k4_a_0 g4_a_0 k4_a_1 g4_a_1 k4_b_0 g4_b_0 k4_b_1 g4_b_1 k4_r_0 g4_r_0 k4_r_1 g4_r_1 k4_way_0 g4_way_0 k4_way_1 g4_way_1 B4 z4; rintro w' ⟨h0, h1, h2, h3, h4, h5, h6, h7, h8, h9, h10, h11, h12, h13, h14, h15⟩; go_simp; try exact IntWalk.i64_in _ (by omega)
    · clear k4_a_0 g4_a_0 k4_a_1 g4_a_1 k4_b_0 g4_b_0 k4_b_1 g4_b_1 k4_r_0 g4_r_0 k4_r_1 g4_r_1 k4_way_0 g4_way_0 k4_way_1 g4_way_1 B4 z4; rintro w' ⟨h0, h1, h2, h3, h4, h5, h6, h7, h8, h9, h10, h11, h12, h13, h14, h15⟩; go_simp; try exact IntWalk.i64_in _ (by omega)
    · clear k4_a_0 g4_a_0 k4_a_1 g4_a_1 k4_b_0 g4_b_0 k4_b_1 g4_b_1 k4_r_0 g4_r_0 k4_r_1 g4_r_1 k4_way_0 g4_way_0 k4_way_1 g4_way_1 B4 z4; rintro w' ⟨h0, h1, h2, h3, h4, h5, h6, h7, h8, h9, h10, h11, h12, h13, h14, h15⟩; go_simp; try exact IntWalk.i64_in _ (by omega)
    · clear k4_a_0 g4_a_0 k4_a_1 g4_a_1 k4_b_0 g4_b_0 k4_b_1 g4_b_1 k4_r_0 g4_r_0 k4_r_1 g4_r_1 k4_way_0 g4_way_0 k4_way_1 g4_way_1 B4 z4; rintro w' ⟨h0, h1, h2, h3, h4, h5, h6, h7, h8, h9, h10, h11, h12, h13, h14, h15⟩; go_simp
    · clear k4_a_0 g4_a_0 k4_a_1 g4_a_1 k4_b_0 g4_b_0 k4_b_1 g4_b_1 k4_r_0 g4_r_0 k4_r_1 g4_r_1 k4_way_0 g4_way_0 k4_way_1 g4_way_1 B4 z4; rintro w' ⟨h0, h1, h2, h3, h4, h5, h6, h7, h8, h9, h10, h11, h12, h13, h14, h15⟩; exact dy _
    · clear k4_a_0 g4_a_0 k4_a_1 g4_a_1 k4_b_0 g4_b_0 k4_b_1 g4_b_1 k4_r_0 g4_r_0 k4_r_1 g4_r_1 k4_way_0 g4_way_0 k4_way_1 g4_way_1 B4 z4; rintro w' ⟨h0, h1, h2, h3, h4, h5, h6, h7, h8, h9, h10, h11, h12, h13, h14, h15⟩; go_simp; try exact IntWalk.i64_in _ (by omega)
    · clear k4_a_0 g4_a_0 k4_a_1 g4_a_1 k4_b_0 g4_b_0 k4_b_1 g4_b_1 k4_r_0 g4_r_0 k4_r_1 g4_r_1 k4_way_0 g4_way_0 k4_way_1 g4_way_1 B4 z4; rintro w' ⟨h0, h1, h2, h3, h4, h5, h6, h7, h8, h9, h10, h11, h12, h13, h14, h15⟩; go_simp; try exact IntWalk.i64_in _ (by omega)
    rintro w5 ⟨h0, h1, h2, h3, h4, h5, h6, h7, h8, h9, h10, h11, h12, h13, h14, h15⟩ hb5 hF
    clear hF
    have k5_a_0 := bcs hb5 k4_a_0
    have g5_a_0 := bfs hb5 k4_a_0 g4_a_0
    have k5_a_1 := bcs hb5 k4_a_1
    have g5_a_1 := bfs hb5 k4_a_1 g4_a_1
    have k5_b_0 := bcs hb5 k4_b_0
    have g5_b_0 := bfs hb5 k4_b_0 g4_b_0
    have k5_b_1 := bcs hb5 k4_b_1
    have g5_b_1 := bfs hb5 k4_b_1 g4_b_1
    have k5_r_0 := bcs hb5 k4_r_0
    have g5_r_0 := bfs hb5 k4_r_0 g4_r_0
    have k5_r_1 := bcs hb5 k4_r_1
    have g5_r_1 := bfs hb5 k4_r_1 g4_r_1
    have k5_way_0 := bcs hb5 k4_way_0
    have g5_way_0 := bfs hb5 k4_way_0 g4_way_0
    have k5_way_1 := bcs hb5 k4_way_1
    have g5_way_1 := bfs hb5 k4_way_1 g4_way_1
    clear h0 h1 h2 h3 h4 h5 h6 h7 h8 h9 h10 h11 h12 h13 h14 h15
    have B5 := bel_step B4 hb5
    have z5 := Nat.le_trans z4 hb5.size
    clear hb5
    (try clear B4)
    (try clear z4)
    (try clear k4_a_0)
    (try clear g4_a_0)
    (try clear k4_a_1)
    (try clear g4_a_1)
    (try clear k4_b_0)
    (try clear g4_b_0)
    (try clear k4_b_1)
    (try clear g4_b_1)
    (try clear k4_r_0)
    (try clear g4_r_0)
    (try clear k4_r_1)
    (try clear g4_r_1)
    (try clear k4_way_0)
    (try clear g4_way_0)
    (try clear k4_way_1)
    (try clear g4_way_1)
    (try clear q4_a)
    (try clear x4_a)
    (try clear y4_a)
    (try clear q4_b)
    (try clear x4_b)
    (try clear y4_b)
    (try clear q4_r)
    (try clear x4_r)
    (try clear y4_r)
    (try clear q4_way)
    (try clear x4_way)
    (try clear y4_way)
    have q5_a : w.heap.size < w5.heap.size := qlt k5_a_0
    have x5_a : ¬ w.heap.size = w5.heap.size := qne k5_a_0
    have y5_a : ¬ w5.heap.size = w.heap.size := fun h => qne k5_a_0 h.symm
    have q5_b : w.heap.size + 1 < w5.heap.size := qlt k5_b_0
    have x5_b : ¬ w.heap.size + 1 = w5.heap.size := qne k5_b_0
    have y5_b : ¬ w5.heap.size = w.heap.size + 1 := fun h => qne k5_b_0 h.symm
    have q5_r : w.heap.size + 1 + 1 < w5.heap.size := qlt k5_r_0
    have x5_r : ¬ w.heap.size + 1 + 1 = w5.heap.size := qne k5_r_0
    have y5_r : ¬ w5.heap.size = w.heap.size + 1 + 1 := fun h => qne k5_r_0 h.symm
    have q5_way : w3.heap.size < w5.heap.size := qlt k5_way_0
    have x5_way : ¬ w3.heap.size = w5.heap.size := qne k5_way_0
    have y5_way : ¬ w5.heap.size = w3.heap.size := fun h => qne k5_way_0 h.symm
    go_wp2
    refine bodyPost_ret (v := .agg #[.int .i64 (hold x + mdrV (k * (hold u - hold x)) 1 d), .int .i64 (hold y + mdrV (k * (hold v - hold y)) 1 d)]) (by simp [results, Try.results12, go_sem, *]) rfl ⟨rfl, ?_⟩
    repeat (first | with_reducible exact Below.refl _ _ | with_reducible exact B5 | with_reducible apply below_drewN | with_reducible apply Below.drew | (with_reducible refine Below.alloc ?_ (by first | (simp; done) | (simp; omega) | omega) _) | (with_reducible refine Below.setCell ?_ (by first | (simp; done) | (simp; omega) | omega) _))
end Go.Proofs.Ythofacdiajhjmaa
