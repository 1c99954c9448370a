
import Derived.Test.YthofacdiajhjmaaV3
import Derived.WalkKit
import Derived.WalkSpells
import Derived.WalkLawsBesides
import Derived.Lib.Hide
import Derived.Below
import Derived.Deep.QuietTactic
import Derived.BigQuiet
import Derived.Deep.RegionHeld3
import Derived.Deep.DrawnRows
import Derived.Deep.DeepFit
import Derived.IntWalk
namespace Go.Proofs.Ythofacdiajhjmaa
open Go.RowKit
set_option linter.unusedVariables false
set_option linter.unusedSimpArgs false
attribute [local go_sem ↓] Go.wp_at_zero Go.wp_at_succ
theorem ori_hold (x y u v s t : Int) : oriV (hold x) (hold y) (hold u) (hold v) (hold s) (hold t) = oriV x y u v s t := by simp only [oriV, hold_hold]
theorem ons_in (x y u v s t : Int) (h : oriV x y u v s t = 0) : dotp (hold x) (hold y) (hold u) (hold v) (hold s) (hold t) ≤ 0 ↔ (min (hold x) (hold u) ≤ hold s ∧ hold s ≤ max (hold x) (hold u)) ∧ (min (hold y) (hold v) ≤ hold t ∧ hold t ≤ max (hold y) (hold v)) :=
  between_iff _ _ _ _ _ _ ((sgn3_eq0 _).1 h)

set_option maxHeartbeats 2000000 in
theorem vons_any (x y u v s t : Int) (w : World) :
    Calls Try.prog 38 #[.agg #[.int .i64 x, .int .i64 y], .agg #[.int .i64 u, .int .i64 v], .agg #[.int .i64 s, .int .i64 t]] w fun e w' => e = .returned (.bool (onsB x y u v s t)) ∧ Below w.heap.size w w' := by
  obtain ⟨bx0, bx1⟩ := hold_bd x
  obtain ⟨by0, by1⟩ := hold_bd y
  obtain ⟨bu0, bu1⟩ := hold_bd u
  obtain ⟨bv0, bv1⟩ := hold_bd v
  obtain ⟨bs0, bs1⟩ := hold_bd s
  obtain ⟨bt0, bt1⟩ := hold_bd t
  have c1 := fun w => vori_any (hold x) (hold y) (hold u) (hold v) (hold s) (hold t) w
  rw [ori_hold] at c1
  by_cases h1 : oriV x y u v s t = 0
  · have e1 : (oriV x y u v s t == 0) = true := by simp [h1]
    by_cases h2 : dotp (hold x) (hold y) (hold u) (hold v) (hold s) (hold t) ≤ 0
    · have d2 : decide (dotp (hold x) (hold y) (hold u) (hold v) (hold s) (hold t) ≤ 0) = true := by simp [h2]
      have e : onsB x y u v s t = true := by simp [onsB, h1, h2]
      rw [e]; clear e h1
      go_enter Try.func38, Try.ntmps38
      go_wp2
      refine wp_region_ord (fun w' => w'.cell? ⟨w.heap.size, 0, none⟩ = some (.int .i64 x) ∧ w'.frozen? ⟨w.heap.size, 0, none⟩ = false ∧ w'.cell? ⟨w.heap.size, 1, none⟩ = some (.int .i64 y) ∧ w'.frozen? ⟨w.heap.size, 1, none⟩ = false ∧ w'.cell? ⟨w.heap.size + 1, 0, none⟩ = some (.int .i64 u) ∧ w'.frozen? ⟨w.heap.size + 1, 0, none⟩ = false ∧ w'.cell? ⟨w.heap.size + 1, 1, none⟩ = some (.int .i64 v) ∧ w'.frozen? ⟨w.heap.size + 1, 1, none⟩ = false ∧ w'.cell? ⟨w.heap.size + 1 + 1, 0, none⟩ = some (.int .i64 s) ∧ w'.frozen? ⟨w.heap.size + 1 + 1, 0, none⟩ = false ∧ w'.cell? ⟨w.heap.size + 1 + 1, 1, none⟩ = some (.int .i64 t) ∧ w'.frozen? ⟨w.heap.size + 1 + 1, 1, none⟩ = false) (fun W => W.cell? ⟨w.heap.size, 0, none⟩ = some (.int .i64 x) ∧ W.frozen? ⟨w.heap.size, 0, none⟩ = false ∧ W.cell? ⟨w.heap.size, 1, none⟩ = some (.int .i64 y) ∧ W.frozen? ⟨w.heap.size, 1, none⟩ = false ∧ W.cell? ⟨w.heap.size + 1, 0, none⟩ = some (.int .i64 u) ∧ W.frozen? ⟨w.heap.size + 1, 0, none⟩ = false ∧ W.cell? ⟨w.heap.size + 1, 1, none⟩ = some (.int .i64 v) ∧ W.frozen? ⟨w.heap.size + 1, 1, none⟩ = false ∧ W.cell? ⟨w.heap.size + 1 + 1, 0, none⟩ = some (.int .i64 s) ∧ W.frozen? ⟨w.heap.size + 1 + 1, 0, none⟩ = false ∧ W.cell? ⟨w.heap.size + 1 + 1, 1, none⟩ = some (.int .i64 t) ∧ W.frozen? ⟨w.heap.size + 1 + 1, 1, none⟩ = false ∧ Below w.heap.size w W ∧ w.heap.size + 1 + 1 + 1 ≤ W.heap.size) 6 [.val (.agg #[.int .i64 x, .int .i64 y]), .call 29 #[.agg #[.int .i64 x, .int .i64 y]] (.agg #[.int .i64 (hold x), .int .i64 (hold y)]), .val (.agg #[.int .i64 u, .int .i64 v]), .call 29 #[.agg #[.int .i64 u, .int .i64 v]] (.agg #[.int .i64 (hold u), .int .i64 (hold v)]), .val (.agg #[.int .i64 s, .int .i64 t]), .call 29 #[.agg #[.int .i64 s, .int .i64 t]] (.agg #[.int .i64 (hold s), .int .i64 (hold t)])] (by kernel_rfl) (by kernel_rfl) (by rintro w1 w2 ⟨h0, h1, h2, h3, h4, h5, h6, h7, h8, h9, h10, h11⟩ hb; exact ⟨bcs hb h0, bfs hb h0 h1, bcs hb h2, bfs hb h2 h3, bcs hb h4, bfs hb h4 h5, bcs hb h6, bfs hb h6 h7, bcs hb h8, bfs hb h8 h9, bcs hb h10, bfs hb h10 h11⟩) ⟨by first | with_reducible assumption | go_simp, by first | with_reducible assumption | go_simp, by first | with_reducible assumption | go_simp, by first | with_reducible assumption | go_simp, by first | with_reducible assumption | go_simp, by first | with_reducible assumption | go_simp, by first | with_reducible assumption | go_simp, by first | with_reducible assumption | go_simp, by first | with_reducible assumption | go_simp, by first | with_reducible assumption | go_simp, by first | with_reducible assumption | go_simp, by first | with_reducible assumption | go_simp, by repeat (first | with_reducible exact Below.refl _ _ | fail | with_reducible apply below_drewN | with_reducible apply Below.drew | (with_reducible refine Below.alloc ?_ (by first | (simp; done) | (simp; omega) | omega) _) | (with_reducible refine Below.setCell ?_ (by first | (simp; done) | (simp; omega) | omega) _)), by first | with_reducible assumption | (simp; done) | (simp; omega)⟩ ?_ ?_
      · rintro W ⟨k1_a_0, g1_a_0, k1_a_1, g1_a_1, k1_b_0, g1_b_0, k1_b_1, g1_b_1, k1_p_0, g1_p_0, k1_p_1, g1_p_1, B1, z1⟩; exact ⟨k1_a_0, g1_a_0, k1_a_1, g1_a_1, k1_b_0, g1_b_0, k1_b_1, g1_b_1, k1_p_0, g1_p_0, k1_p_1, g1_p_1⟩
      rintro w1 ⟨k1_a_0, g1_a_0, k1_a_1, g1_a_1, k1_b_0, g1_b_0, k1_b_1, g1_b_1, k1_p_0, g1_p_0, k1_p_1, g1_p_1, B1, z1⟩ gg
      simp only [List.take_succ_cons, List.take_zero, List.drop_succ_cons, List.drop_zero, Obs, ob, Sp.get, Sp.news, Act.put, List.setIfInBounds_toArray, List.set_cons_zero, List.set_cons_succ, List.nil_append, List.cons_append, List.append_nil]
      refine ⟨⟨rfl, ?_⟩, ⟨rfl, ?_, ?_⟩, ⟨rfl, ?_⟩, ⟨rfl, ?_, ?_⟩, ⟨rfl, ?_⟩, ⟨rfl, ?_, ?_⟩, ?_⟩
      · clear k1_a_0 g1_a_0 k1_a_1 g1_a_1 k1_b_0 g1_b_0 k1_b_1 g1_b_1 k1_p_0 g1_p_0 k1_p_1 g1_p_1 B1 z1; rintro w' ⟨h0, h1, h2, h3, h4, h5, h6, h7, h8, h9, h10, h11⟩; go_simp; try exact IntWalk.i64_in _ (by omega)
      · clear k1_a_0 g1_a_0 k1_a_1 g1_a_1 k1_b_0 g1_b_0 k1_b_1 g1_b_1 k1_p_0 g1_p_0 k1_p_1 g1_p_1 B1 z1; rintro w' ⟨h0, h1, h2, h3, h4, h5, h6, h7, h8, h9, h10, h11⟩; go_simp
      · clear k1_a_0 g1_a_0 k1_a_1 g1_a_1 k1_b_0 g1_b_0 k1_b_1 g1_b_1 k1_p_0 g1_p_0 k1_p_1 g1_p_1 B1 z1; rintro w' ⟨h0, h1, h2, h3, h4, h5, h6, h7, h8, h9, h10, h11⟩; exact vclamp_any x y _
      · clear k1_a_0 g1_a_0 k1_a_1 g1_a_1 k1_b_0 g1_b_0 k1_b_1 g1_b_1 k1_p_0 g1_p_0 k1_p_1 g1_p_1 B1 z1; rintro w' ⟨h0, h1, h2, h3, h4, h5, h6, h7, h8, h9, h10, h11⟩; go_simp; try exact IntWalk.i64_in _ (by omega)
      · clear k1_a_0 g1_a_0 k1_a_1 g1_a_1 k1_b_0 g1_b_0 k1_b_1 g1_b_1 k1_p_0 g1_p_0 k1_p_1 g1_p_1 B1 z1; rintro w' ⟨h0, h1, h2, h3, h4, h5, h6, h7, h8, h9, h10, h11⟩; go_simp
      · clear k1_a_0 g1_a_0 k1_a_1 g1_a_1 k1_b_0 g1_b_0 k1_b_1 g1_b_1 k1_p_0 g1_p_0 k1_p_1 g1_p_1 B1 z1; rintro w' ⟨h0, h1, h2, h3, h4, h5, h6, h7, h8, h9, h10, h11⟩; exact vclamp_any u v _
      · clear k1_a_0 g1_a_0 k1_a_1 g1_a_1 k1_b_0 g1_b_0 k1_b_1 g1_b_1 k1_p_0 g1_p_0 k1_p_1 g1_p_1 B1 z1; rintro w' ⟨h0, h1, h2, h3, h4, h5, h6, h7, h8, h9, h10, h11⟩; go_simp; try exact IntWalk.i64_in _ (by omega)
      · clear k1_a_0 g1_a_0 k1_a_1 g1_a_1 k1_b_0 g1_b_0 k1_b_1 g1_b_1 k1_p_0 g1_p_0 k1_p_1 g1_p_1 B1 z1; rintro w' ⟨h0, h1, h2, h3, h4, h5, h6, h7, h8, h9, h10, h11⟩; go_simp
      · clear k1_a_0 g1_a_0 k1_a_1 g1_a_1 k1_b_0 g1_b_0 k1_b_1 g1_b_1 k1_p_0 g1_p_0 k1_p_1 g1_p_1 B1 z1; rintro w' ⟨h0, h1, h2, h3, h4, h5, h6, h7, h8, h9, h10, h11⟩; exact vclamp_any s t _
      rintro w2 ⟨h0, h1, h2, h3, h4, h5, h6, h7, h8, h9, h10, h11⟩ hb2 hF
      clear hF
      have k2_a_0 := bcs hb2 k1_a_0
      have g2_a_0 := bfs hb2 k1_a_0 g1_a_0
      have k2_a_1 := bcs hb2 k1_a_1
      have g2_a_1 := bfs hb2 k1_a_1 g1_a_1
      have k2_b_0 := bcs hb2 k1_b_0
      have g2_b_0 := bfs hb2 k1_b_0 g1_b_0
      have k2_b_1 := bcs hb2 k1_b_1
      have g2_b_1 := bfs hb2 k1_b_1 g1_b_1
      have k2_p_0 := bcs hb2 k1_p_0
      have g2_p_0 := bfs hb2 k1_p_0 g1_p_0
      have k2_p_1 := bcs hb2 k1_p_1
      have g2_p_1 := bfs hb2 k1_p_1 g1_p_1
      clear h0 h1 h2 h3 h4 h5 h6 h7 h8 h9 h10 h11
      have B2 := bel_step B1 hb2
      have z2 := Nat.le_trans z1 hb2.size
      clear hb2
      (try clear B1)
      (try clear z1)
      (try clear k1_a_0)
      (try clear g1_a_0)
      (try clear k1_a_1)
      (try clear g1_a_1)
      (try clear k1_b_0)
      (try clear g1_b_0)
      (try clear k1_b_1)
      (try clear g1_b_1)
      (try clear k1_p_0)
      (try clear g1_p_0)
      (try clear k1_p_1)
      (try clear g1_p_1)
      (try clear q1_a)
      (try clear x1_a)
      (try clear y1_a)
      (try clear q1_b)
      (try clear x1_b)
      (try clear y1_b)
      (try clear q1_p)
      (try clear x1_p)
      (try clear y1_p)
      have q2_a : w.heap.size < w2.heap.size := qlt k2_a_0
      have x2_a : ¬ w.heap.size = w2.heap.size := qne k2_a_0
      have y2_a : ¬ w2.heap.size = w.heap.size := fun h => qne k2_a_0 h.symm
      have q2_b : w.heap.size + 1 < w2.heap.size := qlt k2_b_0
      have x2_b : ¬ w.heap.size + 1 = w2.heap.size := qne k2_b_0
      have y2_b : ¬ w2.heap.size = w.heap.size + 1 := fun h => qne k2_b_0 h.symm
      have q2_p : w.heap.size + 1 + 1 < w2.heap.size := qlt k2_p_0
      have x2_p : ¬ w.heap.size + 1 + 1 = w2.heap.size := qne k2_p_0
      have y2_p : ¬ w2.heap.size = w.heap.size + 1 + 1 := fun h => qne k2_p_0 h.symm
      go_wp2
      refine wp_region_ord (fun w' => w'.cell? ⟨w.heap.size, 0, none⟩ = some (.int .i64 (hold x)) ∧ w'.frozen? ⟨w.heap.size, 0, none⟩ = false ∧ w'.cell? ⟨w.heap.size, 1, none⟩ = some (.int .i64 (hold y)) ∧ w'.frozen? ⟨w.heap.size, 1, none⟩ = false ∧ w'.cell? ⟨w.heap.size + 1, 0, none⟩ = some (.int .i64 (hold u)) ∧ w'.frozen? ⟨w.heap.size + 1, 0, none⟩ = false ∧ w'.cell? ⟨w.heap.size + 1, 1, none⟩ = some (.int .i64 (hold v)) ∧ w'.frozen? ⟨w.heap.size + 1, 1, none⟩ = false ∧ w'.cell? ⟨w.heap.size + 1 + 1, 0, none⟩ = some (.int .i64 (hold s)) ∧ w'.frozen? ⟨w.heap.size + 1 + 1, 0, none⟩ = false ∧ w'.cell? ⟨w.heap.size + 1 + 1, 1, none⟩ = some (.int .i64 (hold t)) ∧ w'.frozen? ⟨w.heap.size + 1 + 1, 1, none⟩ = false) (fun W => W.cell? ⟨w.heap.size, 0, none⟩ = some (.int .i64 (hold x)) ∧ W.frozen? ⟨w.heap.size, 0, none⟩ = false ∧ W.cell? ⟨w.heap.size, 1, none⟩ = some (.int .i64 (hold y)) ∧ W.frozen? ⟨w.heap.size, 1, none⟩ = false ∧ W.cell? ⟨w.heap.size + 1, 0, none⟩ = some (.int .i64 (hold u)) ∧ W.frozen? ⟨w.heap.size + 1, 0, none⟩ = false ∧ W.cell? ⟨w.heap.size + 1, 1, none⟩ = some (.int .i64 (hold v)) ∧ W.frozen? ⟨w.heap.size + 1, 1, none⟩ = false ∧ W.cell? ⟨w.heap.size + 1 + 1, 0, none⟩ = some (.int .i64 (hold s)) ∧ W.frozen? ⟨w.heap.size + 1 + 1, 0, none⟩ = false ∧ W.cell? ⟨w.heap.size + 1 + 1, 1, none⟩ = some (.int .i64 (hold t)) ∧ W.frozen? ⟨w.heap.size + 1 + 1, 1, none⟩ = false ∧ Below w.heap.size w W ∧ w.heap.size + 1 + 1 + 1 ≤ W.heap.size) 16 [.val (.agg #[.int .i64 (hold x), .int .i64 (hold y)]), .val (.agg #[.int .i64 (hold u), .int .i64 (hold v)]), .val (.agg #[.int .i64 (hold s), .int .i64 (hold t)]), .call 37 #[.agg #[.int .i64 (hold x), .int .i64 (hold y)], .agg #[.int .i64 (hold u), .int .i64 (hold v)], .agg #[.int .i64 (hold s), .int .i64 (hold t)]] (.int .i64 (oriV x y u v s t)), .val (.bool true), .val (.bool true), .val (.agg #[.int .i64 (hold s), .int .i64 (hold t)]), .val (.agg #[.int .i64 (hold x), .int .i64 (hold y)]), .call 30 #[.agg #[.int .i64 (hold s), .int .i64 (hold t)], .agg #[.int .i64 (hold x), .int .i64 (hold y)]] (.agg #[.int .i64 (hold x - hold s), .int .i64 (hold y - hold t)]), .val (.agg #[.int .i64 (hold s), .int .i64 (hold t)]), .val (.agg #[.int .i64 (hold u), .int .i64 (hold v)]), .call 30 #[.agg #[.int .i64 (hold s), .int .i64 (hold t)], .agg #[.int .i64 (hold u), .int .i64 (hold v)]] (.agg #[.int .i64 (hold u - hold s), .int .i64 (hold v - hold t)]), .call 48 #[.agg #[.int .i64 (hold x - hold s), .int .i64 (hold y - hold t)], .agg #[.int .i64 (hold u - hold s), .int .i64 (hold v - hold t)]] (.int .i64 (dotp (hold x) (hold y) (hold u) (hold v) (hold s) (hold t))), .val (.bool true), .val (.bool true), .val (.bool true)] (by kernel_rfl) (by kernel_rfl) (by rintro w1 w2 ⟨h0, h1, h2, h3, h4, h5, h6, h7, h8, h9, h10, h11⟩ hb; exact ⟨bcs hb h0, bfs hb h0 h1, bcs hb h2, bfs hb h2 h3, bcs hb h4, bfs hb h4 h5, bcs hb h6, bfs hb h6 h7, bcs hb h8, bfs hb h8 h9, bcs hb h10, bfs hb h10 h11⟩) ⟨by first | with_reducible assumption | go_simp, by first | with_reducible assumption | go_simp, by first | with_reducible assumption | go_simp, by first | with_reducible assumption | go_simp, by first | with_reducible assumption | go_simp, by first | with_reducible assumption | go_simp, by first | with_reducible assumption | go_simp, by first | with_reducible assumption | go_simp, by first | with_reducible assumption | go_simp, by first | with_reducible assumption | go_simp, by first | with_reducible assumption | go_simp, by first | with_reducible assumption | go_simp, by repeat (first | with_reducible exact Below.refl _ _ | with_reducible exact B2 | with_reducible apply below_drewN | with_reducible apply Below.drew | (with_reducible refine Below.alloc ?_ (by first | (simp; done) | (simp; omega) | omega) _) | (with_reducible refine Below.setCell ?_ (by first | (simp; done) | (simp; omega) | omega) _)), by first | with_reducible assumption | (simp; done) | (simp; omega)⟩ ?_ ?_
      · rintro W ⟨k3_a_0, g3_a_0, k3_a_1, g3_a_1, k3_b_0, g3_b_0, k3_b_1, g3_b_1, k3_p_0, g3_p_0, k3_p_1, g3_p_1, B3, z3⟩; exact ⟨k3_a_0, g3_a_0, k3_a_1, g3_a_1, k3_b_0, g3_b_0, k3_b_1, g3_b_1, k3_p_0, g3_p_0, k3_p_1, g3_p_1⟩
      (try clear B2)
      (try clear z2)
      (try clear k2_a_0)
      (try clear g2_a_0)
      (try clear k2_a_1)
      (try clear g2_a_1)
      (try clear k2_b_0)
      (try clear g2_b_0)
      (try clear k2_b_1)
      (try clear g2_b_1)
      (try clear k2_p_0)
      (try clear g2_p_0)
      (try clear k2_p_1)
      (try clear g2_p_1)
      (try clear q2_a)
      (try clear x2_a)
      (try clear y2_a)
      (try clear q2_b)
      (try clear x2_b)
      (try clear y2_b)
      (try clear q2_p)
      (try clear x2_p)
      (try clear y2_p)
      rintro w3 ⟨k3_a_0, g3_a_0, k3_a_1, g3_a_1, k3_b_0, g3_b_0, k3_b_1, g3_b_1, k3_p_0, g3_p_0, k3_p_1, g3_p_1, B3, z3⟩ gg
      simp only [List.take_succ_cons, List.take_zero, List.drop_succ_cons, List.drop_zero, Obs, ob, Sp.get, Sp.news, Act.put, List.setIfInBounds_toArray, List.set_cons_zero, List.set_cons_succ, List.nil_append, List.cons_append, List.append_nil]
      refine ⟨⟨rfl, ?_⟩, ⟨rfl, ?_⟩, ⟨rfl, ?_⟩, ⟨rfl, ?_, ?_⟩, ⟨rfl, ?_⟩, ⟨rfl, ?_⟩, ⟨rfl, ?_⟩, ⟨rfl, ?_⟩, ⟨rfl, ?_, ?_⟩, ⟨rfl, ?_⟩, ⟨rfl, ?_⟩, ⟨rfl, ?_, ?_⟩, ⟨rfl, ?_, ?_⟩, ⟨rfl, ?_⟩, ⟨rfl, ?_⟩, ⟨rfl, ?_⟩, ?_⟩
      · clear k3_a_0 g3_a_0 k3_a_1 g3_a_1 k3_b_0 g3_b_0 k3_b_1 g3_b_1 k3_p_0 g3_p_0 k3_p_1 g3_p_1 B3 z3; rintro w' ⟨h0, h1, h2, h3, h4, h5, h6, h7, h8, h9, h10, h11⟩; go_simp; try exact IntWalk.i64_in _ (by omega)
      · clear k3_a_0 g3_a_0 k3_a_1 g3_a_1 k3_b_0 g3_b_0 k3_b_1 g3_b_1 k3_p_0 g3_p_0 k3_p_1 g3_p_1 B3 z3; rintro w' ⟨h0, h1, h2, h3, h4, h5, h6, h7, h8, h9, h10, h11⟩; go_simp; try exact IntWalk.i64_in _ (by omega)
      · clear k3_a_0 g3_a_0 k3_a_1 g3_a_1 k3_b_0 g3_b_0 k3_b_1 g3_b_1 k3_p_0 g3_p_0 k3_p_1 g3_p_1 B3 z3; rintro w' ⟨h0, h1, h2, h3, h4, h5, h6, h7, h8, h9, h10, h11⟩; go_simp; try exact IntWalk.i64_in _ (by omega)
      · clear k3_a_0 g3_a_0 k3_a_1 g3_a_1 k3_b_0 g3_b_0 k3_b_1 g3_b_1 k3_p_0 g3_p_0 k3_p_1 g3_p_1 B3 z3; rintro w' ⟨h0, h1, h2, h3, h4, h5, h6, h7, h8, h9, h10, h11⟩; go_simp
      · clear k3_a_0 g3_a_0 k3_a_1 g3_a_1 k3_b_0 g3_b_0 k3_b_1 g3_b_1 k3_p_0 g3_p_0 k3_p_1 g3_p_1 B3 z3; rintro w' ⟨h0, h1, h2, h3, h4, h5, h6, h7, h8, h9, h10, h11⟩; exact c1 _
      · clear k3_a_0 g3_a_0 k3_a_1 g3_a_1 k3_b_0 g3_b_0 k3_b_1 g3_b_1 k3_p_0 g3_p_0 k3_p_1 g3_p_1 B3 z3; rintro w' ⟨h0, h1, h2, h3, h4, h5, h6, h7, h8, h9, h10, h11⟩; go_simp; try exact IntWalk.i64_in _ (by omega)
      · clear k3_a_0 g3_a_0 k3_a_1 g3_a_1 k3_b_0 g3_b_0 k3_b_1 g3_b_1 k3_p_0 g3_p_0 k3_p_1 g3_p_1 B3 z3; rintro w' ⟨h0, h1, h2, h3, h4, h5, h6, h7, h8, h9, h10, h11⟩; go_simp; try exact IntWalk.i64_in _ (by omega)
      · clear k3_a_0 g3_a_0 k3_a_1 g3_a_1 k3_b_0 g3_b_0 k3_b_1 g3_b_1 k3_p_0 g3_p_0 k3_p_1 g3_p_1 B3 z3; rintro w' ⟨h0, h1, h2, h3, h4, h5, h6, h7, h8, h9, h10, h11⟩; go_simp; try exact IntWalk.i64_in _ (by omega)
      · clear k3_a_0 g3_a_0 k3_a_1 g3_a_1 k3_b_0 g3_b_0 k3_b_1 g3_b_1 k3_p_0 g3_p_0 k3_p_1 g3_p_1 B3 z3; rintro w' ⟨h0, h1, h2, h3, h4, h5, h6, h7, h8, h9, h10, h11⟩; go_simp; try exact IntWalk.i64_in _ (by omega)
      · clear k3_a_0 g3_a_0 k3_a_1 g3_a_1 k3_b_0 g3_b_0 k3_b_1 g3_b_1 k3_p_0 g3_p_0 k3_p_1 g3_p_1 B3 z3; rintro w' ⟨h0, h1, h2, h3, h4, h5, h6, h7, h8, h9, h10, h11⟩; go_simp
      · clear k3_a_0 g3_a_0 k3_a_1 g3_a_1 k3_b_0 g3_b_0 k3_b_1 g3_b_1 k3_p_0 g3_p_0 k3_p_1 g3_p_1 B3 z3; rintro w' ⟨h0, h1, h2, h3, h4, h5, h6, h7, h8, h9, h10, h11⟩; exact between_any (hold s) (hold t) (hold x) (hold y) (by omega) (by omega) (by omega) (by omega) (by omega) (by omega) (by omega) (by omega) _
      · clear k3_a_0 g3_a_0 k3_a_1 g3_a_1 k3_b_0 g3_b_0 k3_b_1 g3_b_1 k3_p_0 g3_p_0 k3_p_1 g3_p_1 B3 z3; rintro w' ⟨h0, h1, h2, h3, h4, h5, h6, h7, h8, h9, h10, h11⟩; go_simp; try exact IntWalk.i64_in _ (by omega)
      · clear k3_a_0 g3_a_0 k3_a_1 g3_a_1 k3_b_0 g3_b_0 k3_b_1 g3_b_1 k3_p_0 g3_p_0 k3_p_1 g3_p_1 B3 z3; rintro w' ⟨h0, h1, h2, h3, h4, h5, h6, h7, h8, h9, h10, h11⟩; go_simp; try exact IntWalk.i64_in _ (by omega)
      · clear k3_a_0 g3_a_0 k3_a_1 g3_a_1 k3_b_0 g3_b_0 k3_b_1 g3_b_1 k3_p_0 g3_p_0 k3_p_1 g3_p_1 B3 z3; rintro w' ⟨h0, h1, h2, h3, h4, h5, h6, h7, h8, h9, h10, h11⟩; go_simp
      · clear k3_a_0 g3_a_0 k3_a_1 g3_a_1 k3_b_0 g3_b_0 k3_b_1 g3_b_1 k3_p_0 g3_p_0 k3_p_1 g3_p_1 B3 z3; rintro w' ⟨h0, h1, h2, h3, h4, h5, h6, h7, h8, h9, h10, h11⟩; exact between_any (hold s) (hold t) (hold u) (hold v) (by omega) (by omega) (by omega) (by omega) (by omega) (by omega) (by omega) (by omega) _
      · clear k3_a_0 g3_a_0 k3_a_1 g3_a_1 k3_b_0 g3_b_0 k3_b_1 g3_b_1 k3_p_0 g3_p_0 k3_p_1 g3_p_1 B3 z3; rintro w' ⟨h0, h1, h2, h3, h4, h5, h6, h7, h8, h9, h10, h11⟩; go_simp
      · clear k3_a_0 g3_a_0 k3_a_1 g3_a_1 k3_b_0 g3_b_0 k3_b_1 g3_b_1 k3_p_0 g3_p_0 k3_p_1 g3_p_1 B3 z3; rintro w' ⟨h0, h1, h2, h3, h4, h5, h6, h7, h8, h9, h10, h11⟩; exact dot_any (hold x - hold s) (hold y - hold t) (hold u - hold s) (hold v - hold t) (by omega) (by omega) (by omega) (by omega) (by omega) (by omega) (by omega) (by omega) _
      · clear k3_a_0 g3_a_0 k3_a_1 g3_a_1 k3_b_0 g3_b_0 k3_b_1 g3_b_1 k3_p_0 g3_p_0 k3_p_1 g3_p_1 B3 z3; rintro w' ⟨h0, h1, h2, h3, h4, h5, h6, h7, h8, h9, h10, h11⟩; go_simp; try exact IntWalk.i64_in _ (by omega)
      · clear k3_a_0 g3_a_0 k3_a_1 g3_a_1 k3_b_0 g3_b_0 k3_b_1 g3_b_1 k3_p_0 g3_p_0 k3_p_1 g3_p_1 B3 z3; rintro w' ⟨h0, h1, h2, h3, h4, h5, h6, h7, h8, h9, h10, h11⟩; go_simp; try exact IntWalk.i64_in _ (by omega)
      · clear k3_a_0 g3_a_0 k3_a_1 g3_a_1 k3_b_0 g3_b_0 k3_b_1 g3_b_1 k3_p_0 g3_p_0 k3_p_1 g3_p_1 B3 z3; rintro w' ⟨h0, h1, h2, h3, h4, h5, h6, h7, h8, h9, h10, h11⟩; go_simp; try exact IntWalk.i64_in _ (by omega)
      rintro w4 ⟨h0, h1, h2, h3, h4, h5, h6, h7, h8, h9, h10, h11⟩ hb4 hF
      clear hF
      have k4_a_0 := bcs hb4 k3_a_0
      have g4_a_0 := bfs hb4 k3_a_0 g3_a_0
      have k4_a_1 := bcs hb4 k3_a_1
      have g4_a_1 := bfs hb4 k3_a_1 g3_a_1
      have k4_b_0 := bcs hb4 k3_b_0
      have g4_b_0 := bfs hb4 k3_b_0 g3_b_0
      have k4_b_1 := bcs hb4 k3_b_1
      have g4_b_1 := bfs hb4 k3_b_1 g3_b_1
      have k4_p_0 := bcs hb4 k3_p_0
      have g4_p_0 := bfs hb4 k3_p_0 g3_p_0
      have k4_p_1 := bcs hb4 k3_p_1
      have g4_p_1 := bfs hb4 k3_p_1 g3_p_1
      clear h0 h1 h2 h3 h4 h5 h6 h7 h8 h9 h10 h11
      have B4 := bel_step B3 hb4
      have z4 := Nat.le_trans z3 hb4.size
      clear hb4
      (try clear B3)
      (try clear z3)
      (try clear k3_a_0)
      (try clear g3_a_0)
      (try clear k3_a_1)
      (try clear g3_a_1)
      (try clear k3_b_0)
      (try clear g3_b_0)
      (try clear k3_b_1)
      (try clear g3_b_1)
      (try clear k3_p_0)
      (try clear g3_p_0)
      (try clear k3_p_1)
      (try clear g3_p_1)
      (try clear q3_a)
      (try clear x3_a)
      (try clear y3_a)
      (try clear q3_b)
      (try clear x3_b)
      (try clear y3_b)
      (try clear q3_p)
      (try clear x3_p)
      (try clear y3_p)
      have q4_a : w.heap.size < w4.heap.size := qlt k4_a_0
      have x4_a : ¬ w.heap.size = w4.heap.size := qne k4_a_0
      have y4_a : ¬ w4.heap.size = w.heap.size := fun h => qne k4_a_0 h.symm
      have q4_b : w.heap.size + 1 < w4.heap.size := qlt k4_b_0
      have x4_b : ¬ w.heap.size + 1 = w4.heap.size := qne k4_b_0
      have y4_b : ¬ w4.heap.size = w.heap.size + 1 := fun h => qne k4_b_0 h.symm
      have q4_p : w.heap.size + 1 + 1 < w4.heap.size := qlt k4_p_0
      have x4_p : ¬ w.heap.size + 1 + 1 = w4.heap.size := qne k4_p_0
      have y4_p : ¬ w4.heap.size = w.heap.size + 1 + 1 := fun h => qne k4_p_0 h.symm
      go_wp2
      go_ret
      refine ⟨rfl, ?_⟩
      repeat (first | with_reducible exact Below.refl _ _ | with_reducible exact B4 | with_reducible apply below_drewN | with_reducible apply Below.drew | (with_reducible refine Below.alloc ?_ (by first | (simp; done) | (simp; omega) | omega) _) | (with_reducible refine Below.setCell ?_ (by first | (simp; done) | (simp; omega) | omega) _))
    · have d2 : decide (dotp (hold x) (hold y) (hold u) (hold v) (hold s) (hold t) ≤ 0) = false := by simp; omega
      have e : onsB x y u v s t = false := by simp [onsB, h1]; omega
      rw [e]; clear e h1
      go_enter Try.func38, Try.ntmps38
      go_wp2
      refine wp_region_ord (fun w' => w'.cell? ⟨w.heap.size, 0, none⟩ = some (.int .i64 x) ∧ w'.frozen? ⟨w.heap.size, 0, none⟩ = false ∧ w'.cell? ⟨w.heap.size, 1, none⟩ = some (.int .i64 y) ∧ w'.frozen? ⟨w.heap.size, 1, none⟩ = false ∧ w'.cell? ⟨w.heap.size + 1, 0, none⟩ = some (.int .i64 u) ∧ w'.frozen? ⟨w.heap.size + 1, 0, none⟩ = false ∧ w'.cell? ⟨w.heap.size + 1, 1, none⟩ = some (.int .i64 v) ∧ w'.frozen? ⟨w.heap.size + 1, 1, none⟩ = false ∧ w'.cell? ⟨w.heap.size + 1 + 1, 0, none⟩ = some (.int .i64 s) ∧ w'.frozen? ⟨w.heap.size + 1 + 1, 0, none⟩ = false ∧ w'.cell? ⟨w.heap.size + 1 + 1, 1, none⟩ = some (.int .i64 t) ∧ w'.frozen? ⟨w.heap.size + 1 + 1, 1, none⟩ = false) (fun W => W.cell? ⟨w.heap.size, 0, none⟩ = some (.int .i64 x) ∧ W.frozen? ⟨w.heap.size, 0, none⟩ = false ∧ W.cell? ⟨w.heap.size, 1, none⟩ = some (.int .i64 y) ∧ W.frozen? ⟨w.heap.size, 1, none⟩ = false ∧ W.cell? ⟨w.heap.size + 1, 0, none⟩ = some (.int .i64 u) ∧ W.frozen? ⟨w.heap.size + 1, 0, none⟩ = false ∧ W.cell? ⟨w.heap.size + 1, 1, none⟩ = some (.int .i64 v) ∧ W.frozen? ⟨w.heap.size + 1, 1, none⟩ = false ∧ W.cell? ⟨w.heap.size + 1 + 1, 0, none⟩ = some (.int .i64 s) ∧ W.frozen? ⟨w.heap.size + 1 + 1, 0, none⟩ = false ∧ W.cell? ⟨w.heap.size + 1 + 1, 1, none⟩ = some (.int .i64 t) ∧ W.frozen? ⟨w.heap.size + 1 + 1, 1, none⟩ = false ∧ Below w.heap.size w W ∧ w.heap.size + 1 + 1 + 1 ≤ W.heap.size) 6 [.val (.agg #[.int .i64 x, .int .i64 y]), .call 29 #[.agg #[.int .i64 x, .int .i64 y]] (.agg #[.int .i64 (hold x), .int .i64 (hold y)]), .val (.agg #[.int .i64 u, .int .i64 v]), .call 29 #[.agg #[.int .i64 u, .int .i64 v]] (.agg #[.int .i64 (hold u), .int .i64 (hold v)]), .val (.agg #[.int .i64 s, .int .i64 t]), .call 29 #[.agg #[.int .i64 s, .int .i64 t]] (.agg #[.int .i64 (hold s), .int .i64 (hold t)])] (by kernel_rfl) (by kernel_rfl) (by rintro w1 w2 ⟨h0, h1, h2, h3, h4, h5, h6, h7, h8, h9, h10, h11⟩ hb; exact ⟨bcs hb h0, bfs hb h0 h1, bcs hb h2, bfs hb h2 h3, bcs hb h4, bfs hb h4 h5, bcs hb h6, bfs hb h6 h7, bcs hb h8, bfs hb h8 h9, bcs hb h10, bfs hb h10 h11⟩) ⟨by first | with_reducible assumption | go_simp, by first | with_reducible assumption | go_simp, by first | with_reducible assumption | go_simp, by first | with_reducible assumption | go_simp, by first | with_reducible assumption | go_simp, by first | with_reducible assumption | go_simp, by first | with_reducible assumption | go_simp, by first | with_reducible assumption | go_simp, by first | with_reducible assumption | go_simp, by first | with_reducible assumption | go_simp, by first | with_reducible assumption | go_simp, by first | with_reducible assumption | go_simp, by repeat (first | with_reducible exact Below.refl _ _ | fail | with_reducible apply below_drewN | with_reducible apply Below.drew | (with_reducible refine Below.alloc ?_ (by first | (simp; done) | (simp; omega) | omega) _) | (with_reducible refine Below.setCell ?_ (by first | (simp; done) | (simp; omega) | omega) _)), by first | with_reducible assumption | (simp; done) | (simp; omega)⟩ ?_ ?_
      · rintro W ⟨k1_a_0, g1_a_0, k1_a_1, g1_a_1, k1_b_0, g1_b_0, k1_b_1, g1_b_1, k1_p_0, g1_p_0, k1_p_1, g1_p_1, B1, z1⟩; exact ⟨k1_a_0, g1_a_0, k1_a_1, g1_a_1, k1_b_0, g1_b_0, k1_b_1, g1_b_1, k1_p_0, g1_p_0, k1_p_1, g1_p_1⟩
      rintro w1 ⟨k1_a_0, g1_a_0, k1_a_1, g1_a_1, k1_b_0, g1_b_0, k1_b_1, g1_b_1, k1_p_0, g1_p_0, k1_p_1, g1_p_1, B1, z1⟩ gg
      simp only [List.take_succ_cons, List.take_zero, List.drop_succ_cons, List.drop_zero, Obs, ob, Sp.get, Sp.news, Act.put, List.setIfInBounds_toArray, List.set_cons_zero, List.set_cons_succ, List.nil_append, List.cons_append, List.append_nil]
      refine ⟨⟨rfl, ?_⟩, ⟨rfl, ?_, ?_⟩, ⟨rfl, ?_⟩, ⟨rfl, ?_, ?_⟩, ⟨rfl, ?_⟩, ⟨rfl, ?_, ?_⟩, ?_⟩
      · clear k1_a_0 g1_a_0 k1_a_1 g1_a_1 k1_b_0 g1_b_0 k1_b_1 g1_b_1 k1_p_0 g1_p_0 k1_p_1 g1_p_1 B1 z1; rintro w' ⟨h0, h1, h2, h3, h4, h5, h6, h7, h8, h9, h10, h11⟩; go_simp; try exact IntWalk.i64_in _ (by omega)
      · clear k1_a_0 g1_a_0 k1_a_1 g1_a_1 k1_b_0 g1_b_0 k1_b_1 g1_b_1 k1_p_0 g1_p_0 k1_p_1 g1_p_1 B1 z1; rintro w' ⟨h0, h1, h2, h3, h4, h5, h6, h7, h8, h9, h10, h11⟩; go_simp
      · clear k1_a_0 g1_a_0 k1_a_1 g1_a_1 k1_b_0 g1_b_0 k1_b_1 g1_b_1 k1_p_0 g1_p_0 k1_p_1 g1_p_1 B1 z1; rintro w' ⟨h0, h1, h2, h3, h4, h5, h6, h7, h8, h9, h10, h11⟩; exact vclamp_any x y _
      · clear k1_a_0 g1_a_0 k1_a_1 g1_a_1 k1_b_0 g1_b_0 k1_b_1 g1_b_1 k1_p_0 g1_p_0 k1_p_1 g1_p_1 B1 z1; rintro w' ⟨h0, h1, h2, h3, h4, h5, h6, h7, h8, h9, h10, h11⟩; go_simp; try exact IntWalk.i64_in _ (by omega)
      · clear k1_a_0 g1_a_0 k1_a_1 g1_a_1 k1_b_0 g1_b_0 k1_b_1 g1_b_1 k1_p_0 g1_p_0 k1_p_1 g1_p_1 B1 z1; rintro w' ⟨h0, h1, h2, h3, h4, h5, h6, h7, h8, h9, h10, h11⟩; go_simp
      · clear k1_a_0 g1_a_0 k1_a_1 g1_a_1 k1_b_0 g1_b_0 k1_b_1 g1_b_1 k1_p_0 g1_p_0 k1_p_1 g1_p_1 B1 z1; rintro w' ⟨h0, h1, h2, h3, h4, h5, h6, h7, h8, h9, h10, h11⟩; exact vclamp_any u v _
      · clear k1_a_0 g1_a_0 k1_a_1 g1_a_1 k1_b_0 g1_b_0 k1_b_1 g1_b_1 k1_p_0 g1_p_0 k1_p_1 g1_p_1 B1 z1; rintro w' ⟨h0, h1, h2, h3, h4, h5, h6, h7, h8, h9, h10, h11⟩; go_simp; try exact IntWalk.i64_in _ (by omega)
      · clear k1_a_0 g1_a_0 k1_a_1 g1_a_1 k1_b_0 g1_b_0 k1_b_1 g1_b_1 k1_p_0 g1_p_0 k1_p_1 g1_p_1 B1 z1; rintro w' ⟨h0, h1, h2, h3, h4, h5, h6, h7, h8, h9, h10, h11⟩; go_simp
      · clear k1_a_0 g1_a_0 k1_a_1 g1_a_1 k1_b_0 g1_b_0 k1_b_1 g1_b_1 k1_p_0 g1_p_0 k1_p_1 g1_p_1 B1 z1; rintro w' ⟨h0, h1, h2, h3, h4, h5, h6, h7, h8, h9, h10, h11⟩; exact vclamp_any s t _
      rintro w2 ⟨h0, h1, h2, h3, h4, h5, h6, h7, h8, h9, h10, h11⟩ hb2 hF
      clear hF
      have k2_a_0 := bcs hb2 k1_a_0
      have g2_a_0 := bfs hb2 k1_a_0 g1_a_0
      have k2_a_1 := bcs hb2 k1_a_1
      have g2_a_1 := bfs hb2 k1_a_1 g1_a_1
      have k2_b_0 := bcs hb2 k1_b_0
      have g2_b_0 := bfs hb2 k1_b_0 g1_b_0
      have k2_b_1 := bcs hb2 k1_b_1
      have g2_b_1 := bfs hb2 k1_b_1 g1_b_1
      have k2_p_0 := bcs hb2 k1_p_0
      have g2_p_0 := bfs hb2 k1_p_0 g1_p_0
      have k2_p_1 := bcs hb2 k1_p_1
      have g2_p_1 := bfs hb2 k1_p_1 g1_p_1
      clear h0 h1 h2 h3 h4 h5 h6 h7 h8 h9 h10 h11
      have B2 := bel_step B1 hb2
      have z2 := Nat.le_trans z1 hb2.size
      clear hb2
      (try clear B1)
      (try clear z1)
      (try clear k1_a_0)
      (try clear g1_a_0)
      (try clear k1_a_1)
      (try clear g1_a_1)
      (try clear k1_b_0)
      (try clear g1_b_0)
      (try clear k1_b_1)
      (try clear g1_b_1)
      (try clear k1_p_0)
      (try clear g1_p_0)
      (try clear k1_p_1)
      (try clear g1_p_1)
      (try clear q1_a)
      (try clear x1_a)
      (try clear y1_a)
      (try clear q1_b)
      (try clear x1_b)
      (try clear y1_b)
      (try clear q1_p)
      (try clear x1_p)
      (try clear y1_p)
      have q2_a : w.heap.size < w2.heap.size := qlt k2_a_0
      have x2_a : ¬ w.heap.size = w2.heap.size := qne k2_a_0
      have y2_a : ¬ w2.heap.size = w.heap.size := fun h => qne k2_a_0 h.symm
      have q2_b : w.heap.size + 1 < w2.heap.size := qlt k2_b_0
      have x2_b : ¬ w.heap.size + 1 = w2.heap.size := qne k2_b_0
      have y2_b : ¬ w2.heap.size = w.heap.size + 1 := fun h => qne k2_b_0 h.symm
      have q2_p : w.heap.size + 1 + 1 < w2.heap.size := qlt k2_p_0
      have x2_p : ¬ w.heap.size + 1 + 1 = w2.heap.size := qne k2_p_0
      have y2_p : ¬ w2.heap.size = w.heap.size + 1 + 1 := fun h => qne k2_p_0 h.symm
      go_wp2
      refine wp_region_ord (fun w' => w'.cell? ⟨w.heap.size, 0, none⟩ = some (.int .i64 (hold x)) ∧ w'.frozen? ⟨w.heap.size, 0, none⟩ = false ∧ w'.cell? ⟨w.heap.size, 1, none⟩ = some (.int .i64 (hold y)) ∧ w'.frozen? ⟨w.heap.size, 1, none⟩ = false ∧ w'.cell? ⟨w.heap.size + 1, 0, none⟩ = some (.int .i64 (hold u)) ∧ w'.frozen? ⟨w.heap.size + 1, 0, none⟩ = false ∧ w'.cell? ⟨w.heap.size + 1, 1, none⟩ = some (.int .i64 (hold v)) ∧ w'.frozen? ⟨w.heap.size + 1, 1, none⟩ = false ∧ w'.cell? ⟨w.heap.size + 1 + 1, 0, none⟩ = some (.int .i64 (hold s)) ∧ w'.frozen? ⟨w.heap.size + 1 + 1, 0, none⟩ = false ∧ w'.cell? ⟨w.heap.size + 1 + 1, 1, none⟩ = some (.int .i64 (hold t)) ∧ w'.frozen? ⟨w.heap.size + 1 + 1, 1, none⟩ = false) (fun W => W.cell? ⟨w.heap.size, 0, none⟩ = some (.int .i64 (hold x)) ∧ W.frozen? ⟨w.heap.size, 0, none⟩ = false ∧ W.cell? ⟨w.heap.size, 1, none⟩ = some (.int .i64 (hold y)) ∧ W.frozen? ⟨w.heap.size, 1, none⟩ = false ∧ W.cell? ⟨w.heap.size + 1, 0, none⟩ = some (.int .i64 (hold u)) ∧ W.frozen? ⟨w.heap.size + 1, 0, none⟩ = false ∧ W.cell? ⟨w.heap.size + 1, 1, none⟩ = some (.int .i64 (hold v)) ∧ W.frozen? ⟨w.heap.size + 1, 1, none⟩ = false ∧ W.cell? ⟨w.heap.size + 1 + 1, 0, none⟩ = some (.int .i64 (hold s)) ∧ W.frozen? ⟨w.heap.size + 1 + 1, 0, none⟩ = false ∧ W.cell? ⟨w.heap.size + 1 + 1, 1, none⟩ = some (.int .i64 (hold t)) ∧ W.frozen? ⟨w.heap.size + 1 + 1, 1, none⟩ = false ∧ Below w.heap.size w W ∧ w.heap.size + 1 + 1 + 1 ≤ W.heap.size) 16 [.val (.agg #[.int .i64 (hold x), .int .i64 (hold y)]), .val (.agg #[.int .i64 (hold u), .int .i64 (hold v)]), .val (.agg #[.int .i64 (hold s), .int .i64 (hold t)]), .call 37 #[.agg #[.int .i64 (hold x), .int .i64 (hold y)], .agg #[.int .i64 (hold u), .int .i64 (hold v)], .agg #[.int .i64 (hold s), .int .i64 (hold t)]] (.int .i64 (oriV x y u v s t)), .val (.bool true), .val (.bool true), .val (.agg #[.int .i64 (hold s), .int .i64 (hold t)]), .val (.agg #[.int .i64 (hold x), .int .i64 (hold y)]), .call 30 #[.agg #[.int .i64 (hold s), .int .i64 (hold t)], .agg #[.int .i64 (hold x), .int .i64 (hold y)]] (.agg #[.int .i64 (hold x - hold s), .int .i64 (hold y - hold t)]), .val (.agg #[.int .i64 (hold s), .int .i64 (hold t)]), .val (.agg #[.int .i64 (hold u), .int .i64 (hold v)]), .call 30 #[.agg #[.int .i64 (hold s), .int .i64 (hold t)], .agg #[.int .i64 (hold u), .int .i64 (hold v)]] (.agg #[.int .i64 (hold u - hold s), .int .i64 (hold v - hold t)]), .call 48 #[.agg #[.int .i64 (hold x - hold s), .int .i64 (hold y - hold t)], .agg #[.int .i64 (hold u - hold s), .int .i64 (hold v - hold t)]] (.int .i64 (dotp (hold x) (hold y) (hold u) (hold v) (hold s) (hold t))), .val (.bool false), .val (.bool false), .val (.bool false)] (by kernel_rfl) (by kernel_rfl) (by rintro w1 w2 ⟨h0, h1, h2, h3, h4, h5, h6, h7, h8, h9, h10, h11⟩ hb; exact ⟨bcs hb h0, bfs hb h0 h1, bcs hb h2, bfs hb h2 h3, bcs hb h4, bfs hb h4 h5, bcs hb h6, bfs hb h6 h7, bcs hb h8, bfs hb h8 h9, bcs hb h10, bfs hb h10 h11⟩) ⟨by first | with_reducible assumption | go_simp, by first | with_reducible assumption | go_simp, by first | with_reducible assumption | go_simp, by first | with_reducible assumption | go_simp, by first | with_reducible assumption | go_simp, by first | with_reducible assumption | go_simp, by first | with_reducible assumption | go_simp, by first | with_reducible assumption | go_simp, by first | with_reducible assumption | go_simp, by first | with_reducible assumption | go_simp, by first | with_reducible assumption | go_simp, by first | with_reducible assumption | go_simp, by repeat (first | with_reducible exact Below.refl _ _ | with_reducible exact B2 | with_reducible apply below_drewN | with_reducible apply Below.drew | (with_reducible refine Below.alloc ?_ (by first | (simp; done) | (simp; omega) | omega) _) | (with_reducible refine Below.setCell ?_ (by first | (simp; done) | (simp; omega) | omega) _)), by first | with_reducible assumption | (simp; done) | (simp; omega)⟩ ?_ ?_
      · rintro W ⟨k3_a_0, g3_a_0, k3_a_1, g3_a_1, k3_b_0, g3_b_0, k3_b_1, g3_b_1, k3_p_0, g3_p_0, k3_p_1, g3_p_1, B3, z3⟩; exact ⟨k3_a_0, g3_a_0, k3_a_1, g3_a_1, k3_b_0, g3_b_0, k3_b_1, g3_b_1, k3_p_0, g3_p_0, k3_p_1, g3_p_1⟩
      (try clear B2)
      (try clear z2)
      (try clear k2_a_0)
      (try clear g2_a_0)
      (try clear k2_a_1)
      (try clear g2_a_1)
      (try clear k2_b_0)
      (try clear g2_b_0)
      (try clear k2_b_1)
      (try clear g2_b_1)
      (try clear k2_p_0)
      (try clear g2_p_0)
      (try clear k2_p_1)
      (try clear g2_p_1)
      (try clear q2_a)
      (try clear x2_a)
      (try clear y2_a)
      (try clear q2_b)
      (try clear x2_b)
      (try clear y2_b)
      (try clear q2_p)
      (try clear x2_p)
      (try clear y2_p)
      rintro w3 ⟨k3_a_0, g3_a_0, k3_a_1, g3_a_1, k3_b_0, g3_b_0, k3_b_1, g3_b_1, k3_p_0, g3_p_0, k3_p_1, g3_p_1, B3, z3⟩ gg
      simp only [List.take_succ_cons, List.take_zero, List.drop_succ_cons, List.drop_zero, Obs, ob, Sp.get, Sp.news, Act.put, List.setIfInBounds_toArray, List.set_cons_zero, List.set_cons_succ, List.nil_append, List.cons_append, List.append_nil]
      refine ⟨⟨rfl, ?_⟩, ⟨rfl, ?_⟩, ⟨rfl, ?_⟩, ⟨rfl, ?_, ?_⟩, ⟨rfl, ?_⟩, ⟨rfl, ?_⟩, ⟨rfl, ?_⟩, ⟨rfl, ?_⟩, ⟨rfl, ?_, ?_⟩, ⟨rfl, ?_⟩, ⟨rfl, ?_⟩, ⟨rfl, ?_, ?_⟩, ⟨rfl, ?_, ?_⟩, ⟨rfl, ?_⟩, ⟨rfl, ?_⟩, ⟨rfl, ?_⟩, ?_⟩
      · clear k3_a_0 g3_a_0 k3_a_1 g3_a_1 k3_b_0 g3_b_0 k3_b_1 g3_b_1 k3_p_0 g3_p_0 k3_p_1 g3_p_1 B3 z3; rintro w' ⟨h0, h1, h2, h3, h4, h5, h6, h7, h8, h9, h10, h11⟩; go_simp; try exact IntWalk.i64_in _ (by omega)
      · clear k3_a_0 g3_a_0 k3_a_1 g3_a_1 k3_b_0 g3_b_0 k3_b_1 g3_b_1 k3_p_0 g3_p_0 k3_p_1 g3_p_1 B3 z3; rintro w' ⟨h0, h1, h2, h3, h4, h5, h6, h7, h8, h9, h10, h11⟩; go_simp; try exact IntWalk.i64_in _ (by omega)
      · clear k3_a_0 g3_a_0 k3_a_1 g3_a_1 k3_b_0 g3_b_0 k3_b_1 g3_b_1 k3_p_0 g3_p_0 k3_p_1 g3_p_1 B3 z3; rintro w' ⟨h0, h1, h2, h3, h4, h5, h6, h7, h8, h9, h10, h11⟩; go_simp; try exact IntWalk.i64_in _ (by omega)
      · clear k3_a_0 g3_a_0 k3_a_1 g3_a_1 k3_b_0 g3_b_0 k3_b_1 g3_b_1 k3_p_0 g3_p_0 k3_p_1 g3_p_1 B3 z3; rintro w' ⟨h0, h1, h2, h3, h4, h5, h6, h7, h8, h9, h10, h11⟩; go_simp
      · clear k3_a_0 g3_a_0 k3_a_1 g3_a_1 k3_b_0 g3_b_0 k3_b_1 g3_b_1 k3_p_0 g3_p_0 k3_p_1 g3_p_1 B3 z3; rintro w' ⟨h0, h1, h2, h3, h4, h5, h6, h7, h8, h9, h10, h11⟩; exact c1 _
      · clear k3_a_0 g3_a_0 k3_a_1 g3_a_1 k3_b_0 g3_b_0 k3_b_1 g3_b_1 k3_p_0 g3_p_0 k3_p_1 g3_p_1 B3 z3; rintro w' ⟨h0, h1, h2, h3, h4, h5, h6, h7, h8, h9, h10, h11⟩; go_simp; try exact IntWalk.i64_in _ (by omega)
      · clear k3_a_0 g3_a_0 k3_a_1 g3_a_1 k3_b_0 g3_b_0 k3_b_1 g3_b_1 k3_p_0 g3_p_0 k3_p_1 g3_p_1 B3 z3; rintro w' ⟨h0, h1, h2, h3, h4, h5, h6, h7, h8, h9, h10, h11⟩; go_simp; try exact IntWalk.i64_in _ (by omega)
      · clear k3_a_0 g3_a_0 k3_a_1 g3_a_1 k3_b_0 g3_b_0 k3_b_1 g3_b_1 k3_p_0 g3_p_0 k3_p_1 g3_p_1 B3 z3; rintro w' ⟨h0, h1, h2, h3, h4, h5, h6, h7, h8, h9, h10, h11⟩; go_simp; try exact IntWalk.i64_in _ (by omega)
      · clear k3_a_0 g3_a_0 k3_a_1 g3_a_1 k3_b_0 g3_b_0 k3_b_1 g3_b_1 k3_p_0 g3_p_0 k3_p_1 g3_p_1 B3 z3; rintro w' ⟨h0, h1, h2, h3, h4, h5, h6, h7, h8, h9, h10, h11⟩; go_simp; try exact IntWalk.i64_in _ (by omega)
      · clear k3_a_0 g3_a_0 k3_a_1 g3_a_1 k3_b_0 g3_b_0 k3_b_1 g3_b_1 k3_p_0 g3_p_0 k3_p_1 g3_p_1 B3 z3; rintro w' ⟨h0, h1, h2, h3, h4, h5, h6, h7, h8, h9, h10, h11⟩; go_simp
      · clear k3_a_0 g3_a_0 k3_a_1 g3_a_1 k3_b_0 g3_b_0 k3_b_1 g3_b_1 k3_p_0 g3_p_0 k3_p_1 g3_p_1 B3 z3; rintro w' ⟨h0, h1, h2, h3, h4, h5, h6, h7, h8, h9, h10, h11⟩; exact between_any (hold s) (hold t) (hold x) (hold y) (by omega) (by omega) (by omega) (by omega) (by omega) (by omega) (by omega) (by omega) _
      · clear k3_a_0 g3_a_0 k3_a_1 g3_a_1 k3_b_0 g3_b_0 k3_b_1 g3_b_1 k3_p_0 g3_p_0 k3_p_1 g3_p_1 B3 z3; rintro w' ⟨h0, h1, h2, h3, h4, h5, h6, h7, h8, h9, h10, h11⟩; go_simp; try exact IntWalk.i64_in _ (by omega)
      · clear k3_a_0 g3_a_0 k3_a_1 g3_a_1 k3_b_0 g3_b_0 k3_b_1 g3_b_1 k3_p_0 g3_p_0 k3_p_1 g3_p_1 B3 z3; rintro w' ⟨h0, h1, h2, h3, h4, h5, h6, h7, h8, h9, h10, h11⟩; go_simp; try exact IntWalk.i64_in _ (by omega)
      · clear k3_a_0 g3_a_0 k3_a_1 g3_a_1 k3_b_0 g3_b_0 k3_b_1 g3_b_1 k3_p_0 g3_p_0 k3_p_1 g3_p_1 B3 z3; rintro w' ⟨h0, h1, h2, h3, h4, h5, h6, h7, h8, h9, h10, h11⟩; go_simp
      · clear k3_a_0 g3_a_0 k3_a_1 g3_a_1 k3_b_0 g3_b_0 k3_b_1 g3_b_1 k3_p_0 g3_p_0 k3_p_1 g3_p_1 B3 z3; rintro w' ⟨h0, h1, h2, h3, h4, h5, h6, h7, h8, h9, h10, h11⟩; exact between_any (hold s) (hold t) (hold u) (hold v) (by omega) (by omega) (by omega) (by omega) (by omega) (by omega) (by omega) (by omega) _
      · clear k3_a_0 g3_a_0 k3_a_1 g3_a_1 k3_b_0 g3_b_0 k3_b_1 g3_b_1 k3_p_0 g3_p_0 k3_p_1 g3_p_1 B3 z3; rintro w' ⟨h0, h1, h2, h3, h4, h5, h6, h7, h8, h9, h10, h11⟩; go_simp
      · clear k3_a_0 g3_a_0 k3_a_1 g3_a_1 k3_b_0 g3_b_0 k3_b_1 g3_b_1 k3_p_0 g3_p_0 k3_p_1 g3_p_1 B3 z3; rintro w' ⟨h0, h1, h2, h3, h4, h5, h6, h7, h8, h9, h10, h11⟩; exact dot_any (hold x - hold s) (hold y - hold t) (hold u - hold s) (hold v - hold t) (by omega) (by omega) (by omega) (by omega) (by omega) (by omega) (by omega) (by omega) _
      · clear k3_a_0 g3_a_0 k3_a_1 g3_a_1 k3_b_0 g3_b_0 k3_b_1 g3_b_1 k3_p_0 g3_p_0 k3_p_1 g3_p_1 B3 z3; rintro w' ⟨h0, h1, h2, h3, h4, h5, h6, h7, h8, h9, h10, h11⟩; go_simp; try exact IntWalk.i64_in _ (by omega)
      · clear k3_a_0 g3_a_0 k3_a_1 g3_a_1 k3_b_0 g3_b_0 k3_b_1 g3_b_1 k3_p_0 g3_p_0 k3_p_1 g3_p_1 B3 z3; rintro w' ⟨h0, h1, h2, h3, h4, h5, h6, h7, h8, h9, h10, h11⟩; go_simp; try exact IntWalk.i64_in _ (by omega)
      · clear k3_a_0 g3_a_0 k3_a_1 g3_a_1 k3_b_0 g3_b_0 k3_b_1 g3_b_1 k3_p_0 g3_p_0 k3_p_1 g3_p_1 B3 z3; rintro w' ⟨h0, h1, h2, h3, h4, h5, h6, h7, h8, h9, h10, h11⟩; go_simp; try exact IntWalk.i64_in _ (by omega)
      rintro w4 ⟨h0, h1, h2, h3, h4, h5, h6, h7, h8, h9, h10, h11⟩ hb4 hF
      clear hF
      have k4_a_0 := bcs hb4 k3_a_0
      have g4_a_0 := bfs hb4 k3_a_0 g3_a_0
      have k4_a_1 := bcs hb4 k3_a_1
      have g4_a_1 := bfs hb4 k3_a_1 g3_a_1
      have k4_b_0 := bcs hb4 k3_b_0
      have g4_b_0 := bfs hb4 k3_b_0 g3_b_0
      have k4_b_1 := bcs hb4 k3_b_1
      have g4_b_1 := bfs hb4 k3_b_1 g3_b_1
      have k4_p_0 := bcs hb4 k3_p_0
      have g4_p_0 := bfs hb4 k3_p_0 g3_p_0
      have k4_p_1 := bcs hb4 k3_p_1
      have g4_p_1 := bfs hb4 k3_p_1 g3_p_1
      clear h0 h1 h2 h3 h4 h5 h6 h7 h8 h9 h10 h11
      have B4 := bel_step B3 hb4
      have z4 := Nat.le_trans z3 hb4.size
      clear hb4
      (try clear B3)
      (try clear z3)
      (try clear k3_a_0)
      (try clear g3_a_0)
      (try clear k3_a_1)
      (try clear g3_a_1)
      (try clear k3_b_0)
      (try clear g3_b_0)
      (try clear k3_b_1)
      (try clear g3_b_1)
      (try clear k3_p_0)
      (try clear g3_p_0)
      (try clear k3_p_1)
      (try clear g3_p_1)
      (try clear q3_a)
      (try clear x3_a)
      (try clear y3_a)
      (try clear q3_b)
      (try clear x3_b)
      (try clear y3_b)
      (try clear q3_p)
      (try clear x3_p)
      (try clear y3_p)
      have q4_a : w.heap.size < w4.heap.size := qlt k4_a_0
      have x4_a : ¬ w.heap.size = w4.heap.size := qne k4_a_0
      have y4_a : ¬ w4.heap.size = w.heap.size := fun h => qne k4_a_0 h.symm
      have q4_b : w.heap.size + 1 < w4.heap.size := qlt k4_b_0
      have x4_b : ¬ w.heap.size + 1 = w4.heap.size := qne k4_b_0
      have y4_b : ¬ w4.heap.size = w.heap.size + 1 := fun h => qne k4_b_0 h.symm
      have q4_p : w.heap.size + 1 + 1 < w4.heap.size := qlt k4_p_0
      have x4_p : ¬ w.heap.size + 1 + 1 = w4.heap.size := qne k4_p_0
      have y4_p : ¬ w4.heap.size = w.heap.size + 1 + 1 := fun h => qne k4_p_0 h.symm
      go_wp2
      go_ret
      refine ⟨rfl, ?_⟩
      repeat (first | with_reducible exact Below.refl _ _ | with_reducible exact B4 | with_reducible apply below_drewN | with_reducible apply Below.drew | (with_reducible refine Below.alloc ?_ (by first | (simp; done) | (simp; omega) | omega) _) | (with_reducible refine Below.setCell ?_ (by first | (simp; done) | (simp; omega) | omega) _))
  · have e1 : (oriV x y u v s t == 0) = false := by simp [h1]
    have e : onsB x y u v s t = false := by simp [onsB, h1]
    rw [e]; clear e h1
    go_enter Try.func38, Try.ntmps38
    go_wp2
    refine wp_region_ord (fun w' => w'.cell? ⟨w.heap.size, 0, none⟩ = some (.int .i64 x) ∧ w'.frozen? ⟨w.heap.size, 0, none⟩ = false ∧ w'.cell? ⟨w.heap.size, 1, none⟩ = some (.int .i64 y) ∧ w'.frozen? ⟨w.heap.size, 1, none⟩ = false ∧ w'.cell? ⟨w.heap.size + 1, 0, none⟩ = some (.int .i64 u) ∧ w'.frozen? ⟨w.heap.size + 1, 0, none⟩ = false ∧ w'.cell? ⟨w.heap.size + 1, 1, none⟩ = some (.int .i64 v) ∧ w'.frozen? ⟨w.heap.size + 1, 1, none⟩ = false ∧ w'.cell? ⟨w.heap.size + 1 + 1, 0, none⟩ = some (.int .i64 s) ∧ w'.frozen? ⟨w.heap.size + 1 + 1, 0, none⟩ = false ∧ w'.cell? ⟨w.heap.size + 1 + 1, 1, none⟩ = some (.int .i64 t) ∧ w'.frozen? ⟨w.heap.size + 1 + 1, 1, none⟩ = false) (fun W => W.cell? ⟨w.heap.size, 0, none⟩ = some (.int .i64 x) ∧ W.frozen? ⟨w.heap.size, 0, none⟩ = false ∧ W.cell? ⟨w.heap.size, 1, none⟩ = some (.int .i64 y) ∧ W.frozen? ⟨w.heap.size, 1, none⟩ = false ∧ W.cell? ⟨w.heap.size + 1, 0, none⟩ = some (.int .i64 u) ∧ W.frozen? ⟨w.heap.size + 1, 0, none⟩ = false ∧ W.cell? ⟨w.heap.size + 1, 1, none⟩ = some (.int .i64 v) ∧ W.frozen? ⟨w.heap.size + 1, 1, none⟩ = false ∧ W.cell? ⟨w.heap.size + 1 + 1, 0, none⟩ = some (.int .i64 s) ∧ W.frozen? ⟨w.heap.size + 1 + 1, 0, none⟩ = false ∧ W.cell? ⟨w.heap.size + 1 + 1, 1, none⟩ = some (.int .i64 t) ∧ W.frozen? ⟨w.heap.size + 1 + 1, 1, none⟩ = false ∧ Below w.heap.size w W ∧ w.heap.size + 1 + 1 + 1 ≤ W.heap.size) 6 [.val (.agg #[.int .i64 x, .int .i64 y]), .call 29 #[.agg #[.int .i64 x, .int .i64 y]] (.agg #[.int .i64 (hold x), .int .i64 (hold y)]), .val (.agg #[.int .i64 u, .int .i64 v]), .call 29 #[.agg #[.int .i64 u, .int .i64 v]] (.agg #[.int .i64 (hold u), .int .i64 (hold v)]), .val (.agg #[.int .i64 s, .int .i64 t]), .call 29 #[.agg #[.int .i64 s, .int .i64 t]] (.agg #[.int .i64 (hold s), .int .i64 (hold t)])] (by kernel_rfl) (by kernel_rfl) (by rintro w1 w2 ⟨h0, h1, h2, h3, h4, h5, h6, h7, h8, h9, h10, h11⟩ hb; exact ⟨bcs hb h0, bfs hb h0 h1, bcs hb h2, bfs hb h2 h3, bcs hb h4, bfs hb h4 h5, bcs hb h6, bfs hb h6 h7, bcs hb h8, bfs hb h8 h9, bcs hb h10, bfs hb h10 h11⟩) ⟨by first | with_reducible assumption | go_simp, by first | with_reducible assumption | go_simp, by first | with_reducible assumption | go_simp, by first | with_reducible assumption | go_simp, by first | with_reducible assumption | go_simp, by first | with_reducible assumption | go_simp, by first | with_reducible assumption | go_simp, by first | with_reducible assumption | go_simp, by first | with_reducible assumption | go_simp, by first | with_reducible assumption | go_simp, by first | with_reducible assumption | go_simp, by first | with_reducible assumption | go_simp, by repeat (first | with_reducible exact Below.refl _ _ | fail | with_reducible apply below_drewN | with_reducible apply Below.drew | (with_reducible refine Below.alloc ?_ (by first | (simp; done) | (simp; omega) | omega) _) | (with_reducible refine Below.setCell ?_ (by first | (simp; done) | (simp; omega) | omega) _)), by first | with_reducible assumption | (simp; done) | (simp; omega)⟩ ?_ ?_
    · rintro W ⟨k1_a_0, g1_a_0, k1_a_1, g1_a_1, k1_b_0, g1_b_0, k1_b_1, g1_b_1, k1_p_0, g1_p_0, k1_p_1, g1_p_1, B1, z1⟩; exact ⟨k1_a_0, g1_a_0, k1_a_1, g1_a_1, k1_b_0, g1_b_0, k1_b_1, g1_b_1, k1_p_0, g1_p_0, k1_p_1, g1_p_1⟩
    rintro w1 ⟨k1_a_0, g1_a_0, k1_a_1, g1_a_1, k1_b_0, g1_b_0, k1_b_1, g1_b_1, k1_p_0, g1_p_0, k1_p_1, g1_p_1, B1, z1⟩ gg
    simp only [List.take_succ_cons, List.take_zero, List.drop_succ_cons, List.drop_zero, Obs, ob, Sp.get, Sp.news, Act.put, List.setIfInBounds_toArray, List.set_cons_zero, List.set_cons_succ, List.nil_append, List.cons_append, List.append_nil]
    refine ⟨⟨rfl, ?_⟩, ⟨rfl, ?_, ?_⟩, ⟨rfl, ?_⟩, ⟨rfl, ?_, ?_⟩, ⟨rfl, ?_⟩, ⟨rfl, ?_, ?_⟩, ?_⟩
    · clear k1_a_0 g1_a_0 k1_a_1 g1_a_1 k1_b_0 g1_b_0 k1_b_1 g1_b_1 k1_p_0 g1_p_0 k1_p_1 g1_p_1 B1 z1; rintro w' ⟨h0, h1, h2, h3, h4, h5, h6, h7, h8, h9, h10, h11⟩; go_simp; try exact IntWalk.i64_in _ (by omega)
    · clear k1_a_0 g1_a_0 k1_a_1 g1_a_1 k1_b_0 g1_b_0 k1_b_1 g1_b_1 k1_p_0 g1_p_0 k1_p_1 g1_p_1 B1 z1; rintro w' ⟨h0, h1, h2, h3, h4, h5, h6, h7, h8, h9, h10, h11⟩; go_simp
    · clear k1_a_0 g1_a_0 k1_a_1 g1_a_1 k1_b_0 g1_b_0 k1_b_1 g1_b_1 k1_p_0 g1_p_0 k1_p_1 g1_p_1 B1 z1; rintro w' ⟨h0, h1, h2, h3, h4, h5, h6, h7, h8, h9, h10, h11⟩; exact vclamp_any x y _
    · clear k1_a_0 g1_a_0 k1_a_1 g1_a_1 k1_b_0 g1_b_0 k1_b_1 g1_b_1 k1_p_0 g1_p_0 k1_p_1 g1_p_1 B1 z1; rintro w' ⟨h0, h1, h2, h3, h4, h5, h6, h7, h8, h9, h10, h11⟩; go_simp; try exact IntWalk.i64_in _ (by omega)
    · clear k1_a_0 g1_a_0 k1_a_1 g1_a_1 k1_b_0 g1_b_0 k1_b_1 g1_b_1 k1_p_0 g1_p_0 k1_p_1 g1_p_1 B1 z1; rintro w' ⟨h0, h1, h2, h3, h4, h5, h6, h7, h8, h9, h10, h11⟩; go_simp
    · clear k1_a_0 g1_a_0 k1_a_1 g1_a_1 k1_b_0 g1_b_0 k1_b_1 g1_b_1 k1_p_0 g1_p_0 k1_p_1 g1_p_1 B1 z1; rintro w' ⟨h0, h1, h2, h3, h4, h5, h6, h7, h8, h9, h10, h11⟩; exact vclamp_any u v _
    · clear k1_a_0 g1_a_0 k1_a_1 g1_a_1 k1_b_0 g1_b_0 k1_b_1 g1_b_1 k1_p_0 g1_p_0 k1_p_1 g1_p_1 B1 z1; rintro w' ⟨h0, h1, h2, h3, h4, h5, h6, h7, h8, h9, h10, h11⟩; go_simp; try exact IntWalk.i64_in _ (by omega)
    · clear k1_a_0 g1_a_0 k1_a_1 g1_a_1 k1_b_0 g1_b_0 k1_b_1 g1_b_1 k1_p_0 g1_p_0 k1_p_1 g1_p_1 B1 z1; rintro w' ⟨h0, h1, h2, h3, h4, h5, h6, h7, h8, h9, h10, h11⟩; go_simp
    · clear k1_a_0 g1_a_0 k1_a_1 g1_a_1 k1_b_0 g1_b_0 k1_b_1 g1_b_1 k1_p_0 g1_p_0 k1_p_1 g1_p_1 B1 z1; rintro w' ⟨h0, h1, h2, h3, h4, h5, h6, h7, h8, h9, h10, h11⟩; exact vclamp_any s t _
    rintro w2 ⟨h0, h1, h2, h3, h4, h5, h6, h7, h8, h9, h10, h11⟩ hb2 hF
    clear hF
    have k2_a_0 := bcs hb2 k1_a_0
    have g2_a_0 := bfs hb2 k1_a_0 g1_a_0
    have k2_a_1 := bcs hb2 k1_a_1
    have g2_a_1 := bfs hb2 k1_a_1 g1_a_1
    have k2_b_0 := bcs hb2 k1_b_0
    have g2_b_0 := bfs hb2 k1_b_0 g1_b_0
    have k2_b_1 := bcs hb2 k1_b_1
    have g2_b_1 := bfs hb2 k1_b_1 g1_b_1
    have k2_p_0 := bcs hb2 k1_p_0
    have g2_p_0 := bfs hb2 k1_p_0 g1_p_0
    have k2_p_1 := bcs hb2 k1_p_1
    have g2_p_1 := bfs hb2 k1_p_1 g1_p_1
    clear h0 h1 h2 h3 h4 h5 h6 h7 h8 h9 h10 h11
    have B2 := bel_step B1 hb2
    have z2 := Nat.le_trans z1 hb2.size
    clear hb2
    (try clear B1)
    (try clear z1)
    (try clear k1_a_0)
    (try clear g1_a_0)
    (try clear k1_a_1)
    (try clear g1_a_1)
    (try clear k1_b_0)
    (try clear g1_b_0)
    (try clear k1_b_1)
    (try clear g1_b_1)
    (try clear k1_p_0)
    (try clear g1_p_0)
    (try clear k1_p_1)
    (try clear g1_p_1)
    (try clear q1_a)
    (try clear x1_a)
    (try clear y1_a)
    (try clear q1_b)
    (try clear x1_b)
    (try clear y1_b)
    (try clear q1_p)
    (try clear x1_p)
    (try clear y1_p)
    have q2_a : w.heap.size < w2.heap.size := qlt k2_a_0
    have x2_a : ¬ w.heap.size = w2.heap.size := qne k2_a_0
    have y2_a : ¬ w2.heap.size = w.heap.size := fun h => qne k2_a_0 h.symm
    have q2_b : w.heap.size + 1 < w2.heap.size := qlt k2_b_0
    have x2_b : ¬ w.heap.size + 1 = w2.heap.size := qne k2_b_0
    have y2_b : ¬ w2.heap.size = w.heap.size + 1 := fun h => qne k2_b_0 h.symm
    have q2_p : w.heap.size + 1 + 1 < w2.heap.size := qlt k2_p_0
    have x2_p : ¬ w.heap.size + 1 + 1 = w2.heap.size := qne k2_p_0
    have y2_p : ¬ w2.heap.size = w.heap.size + 1 + 1 := fun h => qne k2_p_0 h.symm
    go_wp2
    refine wp_region_ord (fun w' => w'.cell? ⟨w.heap.size, 0, none⟩ = some (.int .i64 (hold x)) ∧ w'.frozen? ⟨w.heap.size, 0, none⟩ = false ∧ w'.cell? ⟨w.heap.size, 1, none⟩ = some (.int .i64 (hold y)) ∧ w'.frozen? ⟨w.heap.size, 1, none⟩ = false ∧ w'.cell? ⟨w.heap.size + 1, 0, none⟩ = some (.int .i64 (hold u)) ∧ w'.frozen? ⟨w.heap.size + 1, 0, none⟩ = false ∧ w'.cell? ⟨w.heap.size + 1, 1, none⟩ = some (.int .i64 (hold v)) ∧ w'.frozen? ⟨w.heap.size + 1, 1, none⟩ = false ∧ w'.cell? ⟨w.heap.size + 1 + 1, 0, none⟩ = some (.int .i64 (hold s)) ∧ w'.frozen? ⟨w.heap.size + 1 + 1, 0, none⟩ = false ∧ w'.cell? ⟨w.heap.size + 1 + 1, 1, none⟩ = some (.int .i64 (hold t)) ∧ w'.frozen? ⟨w.heap.size + 1 + 1, 1, none⟩ = false) (fun W => W.cell? ⟨w.heap.size, 0, none⟩ = some (.int .i64 (hold x)) ∧ W.frozen? ⟨w.heap.size, 0, none⟩ = false ∧ W.cell? ⟨w.heap.size, 1, none⟩ = some (.int .i64 (hold y)) ∧ W.frozen? ⟨w.heap.size, 1, none⟩ = false ∧ W.cell? ⟨w.heap.size + 1, 0, none⟩ = some (.int .i64 (hold u)) ∧ W.frozen? ⟨w.heap.size + 1, 0, none⟩ = false ∧ W.cell? ⟨w.heap.size + 1, 1, none⟩ = some (.int .i64 (hold v)) ∧ W.frozen? ⟨w.heap.size + 1, 1, none⟩ = false ∧ W.cell? ⟨w.heap.size + 1 + 1, 0, none⟩ = some (.int .i64 (hold s)) ∧ W.frozen? ⟨w.heap.size + 1 + 1, 0, none⟩ = false ∧ W.cell? ⟨w.heap.size + 1 + 1, 1, none⟩ = some (.int .i64 (hold t)) ∧ W.frozen? ⟨w.heap.size + 1 + 1, 1, none⟩ = false ∧ Below w.heap.size w W ∧ w.heap.size + 1 + 1 + 1 ≤ W.heap.size) 16 [.val (.agg #[.int .i64 (hold x), .int .i64 (hold y)]), .val (.agg #[.int .i64 (hold u), .int .i64 (hold v)]), .val (.agg #[.int .i64 (hold s), .int .i64 (hold t)]), .call 37 #[.agg #[.int .i64 (hold x), .int .i64 (hold y)], .agg #[.int .i64 (hold u), .int .i64 (hold v)], .agg #[.int .i64 (hold s), .int .i64 (hold t)]] (.int .i64 (oriV x y u v s t)), .val (.bool false), .val (.bool false), .skip, .skip, .skip, .skip, .skip, .skip, .skip, .skip, .val (.bool false), .val (.bool false)] (by kernel_rfl) (by kernel_rfl) (by rintro w1 w2 ⟨h0, h1, h2, h3, h4, h5, h6, h7, h8, h9, h10, h11⟩ hb; exact ⟨bcs hb h0, bfs hb h0 h1, bcs hb h2, bfs hb h2 h3, bcs hb h4, bfs hb h4 h5, bcs hb h6, bfs hb h6 h7, bcs hb h8, bfs hb h8 h9, bcs hb h10, bfs hb h10 h11⟩) ⟨by first | with_reducible assumption | go_simp, by first | with_reducible assumption | go_simp, by first | with_reducible assumption | go_simp, by first | with_reducible assumption | go_simp, by first | with_reducible assumption | go_simp, by first | with_reducible assumption | go_simp, by first | with_reducible assumption | go_simp, by first | with_reducible assumption | go_simp, by first | with_reducible assumption | go_simp, by first | with_reducible assumption | go_simp, by first | with_reducible assumption | go_simp, by first | with_reducible assumption | go_simp, by repeat (first | with_reducible exact Below.refl _ _ | with_reducible exact B2 | with_reducible apply below_drewN | with_reducible apply Below.drew | (with_reducible refine Below.alloc ?_ (by first | (simp; done) | (simp; omega) | omega) _) | (with_reducible refine Below.setCell ?_ (by first | (simp; done) | (simp; omega) | omega) _)), by first | with_reducible assumption | (simp; done) | (simp; omega)⟩ ?_ ?_
    · rintro W ⟨k3_a_0, g3_a_0, k3_a_1, g3_a_1, k3_b_0, g3_b_0, k3_b_1, g3_b_1, k3_p_0, g3_p_0, k3_p_1, g3_p_1, B3, z3⟩; exact ⟨k3_a_0, g3_a_0, k3_a_1, g3_a_1, k3_b_0, g3_b_0, k3_b_1, g3_b_1, k3_p_0, g3_p_0, k3_p_1, g3_p_1⟩
    (try clear B2)
    (try clear z2)
    (try clear k2_a_0)
    (try clear g2_a_0)
    (try clear k2_a_1)
    (try clear g2_a_1)
    (try clear k2_b_0)
    (try clear g2_b_0)
    (try clear k2_b_1)
    (try clear g2_b_1)
    (try clear k2_p_0)
    (try clear g2_p_0)
    (try clear k2_p_1)
    (try clear g2_p_1)
    (try clear q2_a)
    (try clear x2_a)
    (try clear y2_a)
    (try clear q2_b)
    (try clear x2_b)
    (try clear y2_b)
    (try clear q2_p)
    (try clear x2_p)
    (try clear y2_p)
    rintro w3 ⟨k3_a_0, g3_a_0, k3_a_1, g3_a_1, k3_b_0, g3_b_0, k3_b_1, g3_b_1, k3_p_0, g3_p_0, k3_p_1, g3_p_1, B3, z3⟩ gg
    simp only [List.take_succ_cons, List.take_zero, List.drop_succ_cons, List.drop_zero, Obs, ob, Sp.get, Sp.news, Act.put, List.setIfInBounds_toArray, List.set_cons_zero, List.set_cons_succ, List.nil_append, List.cons_append, List.append_nil]
    refine ⟨⟨rfl, ?_⟩, ⟨rfl, ?_⟩, ⟨rfl, ?_⟩, ⟨rfl, ?_, ?_⟩, ⟨rfl, ?_⟩, ⟨rfl, ?_⟩, rfl, rfl, rfl, rfl, rfl, rfl, rfl, rfl, ⟨rfl, ?_⟩, ⟨rfl, ?_⟩, ?_⟩
    · clear k3_a_0 g3_a_0 k3_a_1 g3_a_1 k3_b_0 g3_b_0 k3_b_1 g3_b_1 k3_p_0 g3_p_0 k3_p_1 g3_p_1 B3 z3; rintro w' ⟨h0, h1, h2, h3, h4, h5, h6, h7, h8, h9, h10, h11⟩; go_simp; try exact IntWalk.i64_in _ (by omega)
    · clear k3_a_0 g3_a_0 k3_a_1 g3_a_1 k3_b_0 g3_b_0 k3_b_1 g3_b_1 k3_p_0 g3_p_0 k3_p_1 g3_p_1 B3 z3; rintro w' ⟨h0, h1, h2, h3, h4, h5, h6, h7, h8, h9, h10, h11⟩; go_simp; try exact IntWalk.i64_in _ (by omega)
    · clear k3_a_0 g3_a_0 k3_a_1 g3_a_1 k3_b_0 g3_b_0 k3_b_1 g3_b_1 k3_p_0 g3_p_0 k3_p_1 g3_p_1 B3 z3; rintro w' ⟨h0, h1, h2, h3, h4, h5, h6, h7, h8, h9, h10, h11⟩; go_simp; try exact IntWalk.i64_in _ (by omega)
    · clear k3_a_0 g3_a_0 k3_a_1 g3_a_1 k3_b_0 g3_b_0 k3_b_1 g3_b_1 k3_p_0 g3_p_0 k3_p_1 g3_p_1 B3 z3; rintro w' ⟨h0, h1, h2, h3, h4, h5, h6, h7, h8, h9, h10, h11⟩; go_simp
    · clear k3_a_0 g3_a_0 k3_a_1 g3_a_1 k3_b_0 g3_b_0 k3_b_1 g3_b_1 k3_p_0 g3_p_0 k3_p_1 g3_p_1 B3 z3; rintro w' ⟨h0, h1, h2, h3, h4, h5, h6, h7, h8, h9, h10, h11⟩; exact c1 _
    · clear k3_a_0 g3_a_0 k3_a_1 g3_a_1 k3_b_0 g3_b_0 k3_b_1 g3_b_1 k3_p_0 g3_p_0 k3_p_1 g3_p_1 B3 z3; rintro w' ⟨h0, h1, h2, h3, h4, h5, h6, h7, h8, h9, h10, h11⟩; go_simp; try exact IntWalk.i64_in _ (by omega)
    · clear k3_a_0 g3_a_0 k3_a_1 g3_a_1 k3_b_0 g3_b_0 k3_b_1 g3_b_1 k3_p_0 g3_p_0 k3_p_1 g3_p_1 B3 z3; rintro w' ⟨h0, h1, h2, h3, h4, h5, h6, h7, h8, h9, h10, h11⟩; go_simp; try exact IntWalk.i64_in _ (by omega)
    · clear k3_a_0 g3_a_0 k3_a_1 g3_a_1 k3_b_0 g3_b_0 k3_b_1 g3_b_1 k3_p_0 g3_p_0 k3_p_1 g3_p_1 B3 z3; rintro w' ⟨h0, h1, h2, h3, h4, h5, h6, h7, h8, h9, h10, h11⟩; go_simp; try exact IntWalk.i64_in _ (by omega)
    · clear k3_a_0 g3_a_0 k3_a_1 g3_a_1 k3_b_0 g3_b_0 k3_b_1 g3_b_1 k3_p_0 g3_p_0 k3_p_1 g3_p_1 B3 z3; rintro w' ⟨h0, h1, h2, h3, h4, h5, h6, h7, h8, h9, h10, h11⟩; go_simp; try exact IntWalk.i64_in _ (by omega)
    rintro w4 ⟨h0, h1, h2, h3, h4, h5, h6, h7, h8, h9, h10, h11⟩ hb4 hF
    clear hF
    have k4_a_0 := bcs hb4 k3_a_0
    have g4_a_0 := bfs hb4 k3_a_0 g3_a_0
    have k4_a_1 := bcs hb4 k3_a_1
    have g4_a_1 := bfs hb4 k3_a_1 g3_a_1
    have k4_b_0 := bcs hb4 k3_b_0
    have g4_b_0 := bfs hb4 k3_b_0 g3_b_0
    have k4_b_1 := bcs hb4 k3_b_1
    have g4_b_1 := bfs hb4 k3_b_1 g3_b_1
    have k4_p_0 := bcs hb4 k3_p_0
    have g4_p_0 := bfs hb4 k3_p_0 g3_p_0
    have k4_p_1 := bcs hb4 k3_p_1
    have g4_p_1 := bfs hb4 k3_p_1 g3_p_1
    clear h0 h1 h2 h3 h4 h5 h6 h7 h8 h9 h10 h11
    have B4 := bel_step B3 hb4
    have z4 := Nat.le_trans z3 hb4.size
    clear hb4
    (try clear B3)
    (try clear z3)
    (try clear k3_a_0)
    (try clear g3_a_0)
    (try clear k3_a_1)
    (try clear g3_a_1)
    (try clear k3_b_0)
    (try clear g3_b_0)
    (try clear k3_b_1)
    (try clear g3_b_1)
    (try clear k3_p_0)
    (try clear g3_p_0)
    (try clear k3_p_1)
    (try clear g3_p_1)
    (try clear q3_a)
    (try clear x3_a)
    (try clear y3_a)
    (try clear q3_b)
    (try clear x3_b)
    (try clear y3_b)
    (try clear q3_p)
    (try clear x3_p)
    (try clear y3_p)
    have q4_a : w.heap.size < w4.heap.size := qlt k4_a_0
    have x4_a : ¬ w.heap.size = w4.heap.size := qne k4_a_0
    have y4_a : ¬ w4.heap.size = w.heap.size := fun h => qne k4_a_0 h.symm
    have q4_b : w.heap.size + 1 < w4.heap.size := qlt k4_b_0
    have x4_b : ¬ w.heap.size + 1 = w4.heap.size := qne k4_b_0
    have y4_b : ¬ w4.heap.size = w.heap.size + 1 := fun h => qne k4_b_0 h.symm
    have q4_p : w.heap.size + 1 + 1 < w4.heap.size := qlt k4_p_0
    have x4_p : ¬ w.heap.size + 1 + 1 = w4.heap.size := qne k4_p_0
    have y4_p : ¬ w4.heap.size = w.heap.size + 1 + 1 := fun h => qne k4_p_0 h.symm
    go_wp2
    go_ret
    refine ⟨rfl, ?_⟩
    repeat (first | with_reducible exact Below.refl _ _ | with_reducible exact B4 | with_reducible apply below_drewN | with_reducible apply Below.drew | (with_reducible refine Below.alloc ?_ (by first | (simp; done) | (simp; omega) | omega) _) | (with_reducible refine Below.setCell ?_ (by first | (simp; done) | (simp; omega) | omega) _))
end Go.Proofs.Ythofacdiajhjmaa
