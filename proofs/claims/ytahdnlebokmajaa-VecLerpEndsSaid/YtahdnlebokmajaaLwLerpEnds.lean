import Derived.Test.YtahdnlebokmajaaVex
import Derived.Test.YtahdnlebokmajaaEnv
import Derived.WalkKit
import Derived.WalkSpells
import Derived.WalkLawsBesides
import Derived.Lib.Hide
import Derived.Below
import Derived.Deep.QuietTactic
import Derived.BigQuiet
import Derived.Deep.RegionHeld3
import Derived.Deep.DrawnRows
import Derived.Deep.DeepFit
import Derived.IntWalk
namespace Go.Proofs.Ytahdnlebokmajaa
open Go.RowKit
set_option linter.unusedVariables false
set_option linter.unusedSimpArgs false
attribute [local go_sem ↓] Go.wp_at_zero Go.wp_at_succ
attribute [local go_sem] rhoF_tmp rhoF_const rhoF_global rhoF_func
theorem vB_of (x y : Int) (h : vB x y = true) : hold x = x ∧ hold y = y ∧ -1048576 ≤ x ∧ x ≤ 1048576 ∧ -1048576 ≤ y ∧ y ≤ 1048576 := by
  obtain ⟨⟨h1, h2⟩, h3, h4⟩ := (vB_iff x y).1 h
  exact ⟨hold_id x h1 h2, hold_id y h3 h4, h1, h2, h3, h4⟩
theorem min_if2 (a b : Int) : min a b = if b < a then b else a := by split <;> omega
theorem max_if2 (a b : Int) : max a b = if a < b then b else a := by split <;> omega

set_option maxRecDepth 20000 in
set_option maxHeartbeats 8000000 in
theorem vecLerpEnds_w (x y u v n d : Int) (n0 : -9223372036854775808 ≤ n) (n1 : n ≤ 9223372036854775807) (d0 : -9223372036854775808 ≤ d) (d1 : d ≤ 9223372036854775807) (w : World) :
    Calls Try.prog 8 #[.agg #[.int .i64 x, .int .i64 y], .agg #[.int .i64 u, .int .i64 v], .agg #[.int .i64 n, .int .i64 d]] w fun e w' => e = .returned (.bool true) ∧ Below w.heap.size w w' := by
  have v1 := fun w => vvalid_any x y w
  have v2 := fun w => vvalid_any u v w
  by_cases ha : vB x y = true
  case neg =>
    rw [show vB x y = false by simpa using ha] at v1
    clear v2
    go_enter Try.func8, Try.ntmps8
    go_wp2_with (first | (go_at_call 9; (with_reducible refine (v1 _).mono ?_); rintro e w1 ⟨rfl, hb1⟩; have k1_b3_0 : w1.cell? ⟨w.heap.size, 0, none⟩ = some (.int .i64 x) := bcs hb1 (by go_simp); have g1_b3_0 : w1.frozen? ⟨w.heap.size, 0, none⟩ = false := bfs hb1 (v := .int .i64 x) (by go_simp) (by go_simp); have k1_b3_1 : w1.cell? ⟨w.heap.size, 1, none⟩ = some (.int .i64 y) := bcs hb1 (by go_simp); have g1_b3_1 : w1.frozen? ⟨w.heap.size, 1, none⟩ = false := bfs hb1 (v := .int .i64 y) (by go_simp) (by go_simp); have k1_b4_0 : w1.cell? ⟨w.heap.size + 1, 0, none⟩ = some (.int .i64 u) := bcs hb1 (by go_simp); have g1_b4_0 : w1.frozen? ⟨w.heap.size + 1, 0, none⟩ = false := bfs hb1 (v := .int .i64 u) (by go_simp) (by go_simp); have k1_b4_1 : w1.cell? ⟨w.heap.size + 1, 1, none⟩ = some (.int .i64 v) := bcs hb1 (by go_simp); have g1_b4_1 : w1.frozen? ⟨w.heap.size + 1, 1, none⟩ = false := bfs hb1 (v := .int .i64 v) (by go_simp) (by go_simp); have k1_b5_0 : w1.cell? ⟨w.heap.size + 1 + 1, 0, none⟩ = some (.int .i64 n) := bcs hb1 (by go_simp); have g1_b5_0 : w1.frozen? ⟨w.heap.size + 1 + 1, 0, none⟩ = false := bfs hb1 (v := .int .i64 n) (by go_simp) (by go_simp); have k1_b5_1 : w1.cell? ⟨w.heap.size + 1 + 1, 1, none⟩ = some (.int .i64 d) := bcs hb1 (by go_simp); have g1_b5_1 : w1.frozen? ⟨w.heap.size + 1 + 1, 1, none⟩ = false := bfs hb1 (v := .int .i64 d) (by go_simp) (by go_simp); have q1_b3 : w.heap.size < w1.heap.size := qlt k1_b3_0; have x1_b3 : ¬ w.heap.size = w1.heap.size := qne k1_b3_0; have y1_b3 : ¬ w1.heap.size = w.heap.size := fun h => qne k1_b3_0 h.symm; have q1_b4 : w.heap.size + 1 < w1.heap.size := qlt k1_b4_0; have x1_b4 : ¬ w.heap.size + 1 = w1.heap.size := qne k1_b4_0; have y1_b4 : ¬ w1.heap.size = w.heap.size + 1 := fun h => qne k1_b4_0 h.symm; have q1_b5 : w.heap.size + 1 + 1 < w1.heap.size := qlt k1_b5_0; have x1_b5 : ¬ w.heap.size + 1 + 1 = w1.heap.size := qne k1_b5_0; have y1_b5 : ¬ w1.heap.size = w.heap.size + 1 + 1 := fun h => qne k1_b5_0 h.symm; have B1 : Below w.heap.size w w1 := bel_step (by repeat (first | with_reducible exact Below.refl _ _ | fail | with_reducible apply below_drewN | with_reducible apply Below.drew | (with_reducible refine Below.alloc ?_ (by first | (simp; done) | (simp; omega) | omega) _) | (with_reducible refine Below.setCell ?_ (by first | (simp; done) | (simp; omega) | omega) _))) hb1; have z1 : w.heap.size + 1 + 1 + 1 ≤ w1.heap.size := Nat.le_trans (by first | with_reducible assumption | (simp; done) | (simp; omega)) hb1.size; clear hb1) | (go_at_call 25; (with_reducible refine (example_any _).mono ?_); rintro e w2 ⟨rfl, hb2⟩; have k2_b3_0 : w2.cell? ⟨w.heap.size, 0, none⟩ = some (.int .i64 x) := bcs hb2 (by go_simp); have g2_b3_0 : w2.frozen? ⟨w.heap.size, 0, none⟩ = false := bfs hb2 (v := .int .i64 x) (by go_simp) (by go_simp); have k2_b3_1 : w2.cell? ⟨w.heap.size, 1, none⟩ = some (.int .i64 y) := bcs hb2 (by go_simp); have g2_b3_1 : w2.frozen? ⟨w.heap.size, 1, none⟩ = false := bfs hb2 (v := .int .i64 y) (by go_simp) (by go_simp); have k2_b4_0 : w2.cell? ⟨w.heap.size + 1, 0, none⟩ = some (.int .i64 u) := bcs hb2 (by go_simp); have g2_b4_0 : w2.frozen? ⟨w.heap.size + 1, 0, none⟩ = false := bfs hb2 (v := .int .i64 u) (by go_simp) (by go_simp); have k2_b4_1 : w2.cell? ⟨w.heap.size + 1, 1, none⟩ = some (.int .i64 v) := bcs hb2 (by go_simp); have g2_b4_1 : w2.frozen? ⟨w.heap.size + 1, 1, none⟩ = false := bfs hb2 (v := .int .i64 v) (by go_simp) (by go_simp); have k2_b5_0 : w2.cell? ⟨w.heap.size + 1 + 1, 0, none⟩ = some (.int .i64 n) := bcs hb2 (by go_simp); have g2_b5_0 : w2.frozen? ⟨w.heap.size + 1 + 1, 0, none⟩ = false := bfs hb2 (v := .int .i64 n) (by go_simp) (by go_simp); have k2_b5_1 : w2.cell? ⟨w.heap.size + 1 + 1, 1, none⟩ = some (.int .i64 d) := bcs hb2 (by go_simp); have g2_b5_1 : w2.frozen? ⟨w.heap.size + 1 + 1, 1, none⟩ = false := bfs hb2 (v := .int .i64 d) (by go_simp) (by go_simp); have q2_b3 : w.heap.size < w2.heap.size := qlt k2_b3_0; have x2_b3 : ¬ w.heap.size = w2.heap.size := qne k2_b3_0; have y2_b3 : ¬ w2.heap.size = w.heap.size := fun h => qne k2_b3_0 h.symm; have q2_b4 : w.heap.size + 1 < w2.heap.size := qlt k2_b4_0; have x2_b4 : ¬ w.heap.size + 1 = w2.heap.size := qne k2_b4_0; have y2_b4 : ¬ w2.heap.size = w.heap.size + 1 := fun h => qne k2_b4_0 h.symm; have q2_b5 : w.heap.size + 1 + 1 < w2.heap.size := qlt k2_b5_0; have x2_b5 : ¬ w.heap.size + 1 + 1 = w2.heap.size := qne k2_b5_0; have y2_b5 : ¬ w2.heap.size = w.heap.size + 1 + 1 := fun h => qne k2_b5_0 h.symm; have B2 : Below w.heap.size w w2 := bel_step (by repeat (first | with_reducible exact Below.refl _ _ | with_reducible exact B1 | with_reducible apply below_drewN | with_reducible apply Below.drew | (with_reducible refine Below.alloc ?_ (by first | (simp; done) | (simp; omega) | omega) _) | (with_reducible refine Below.setCell ?_ (by first | (simp; done) | (simp; omega) | omega) _))) hb2; have z2 : w.heap.size + 1 + 1 + 1 ≤ w2.heap.size := Nat.le_trans (by first | with_reducible assumption | (simp; done) | (simp; omega)) hb2.size; clear hb2; (try clear k1_b3_0); (try clear g1_b3_0); (try clear k1_b3_1); (try clear g1_b3_1); (try clear k1_b4_0); (try clear g1_b4_0); (try clear k1_b4_1); (try clear g1_b4_1); (try clear k1_b5_0); (try clear g1_b5_0); (try clear k1_b5_1); (try clear g1_b5_1); (try clear B1); (try clear z1); (try clear q1_b3); (try clear x1_b3); (try clear y1_b3); (try clear q1_b4); (try clear x1_b4); (try clear y1_b4); (try clear q1_b5); (try clear x1_b5); (try clear y1_b5)))
    go_ret
    refine ⟨rfl, ?_⟩
    repeat (first | with_reducible exact Below.refl _ _ | with_reducible exact B2 | with_reducible apply below_drewN | with_reducible apply Below.drew | (with_reducible refine Below.alloc ?_ (by first | (simp; done) | (simp; omega) | omega) _) | (with_reducible refine Below.setCell ?_ (by first | (simp; done) | (simp; omega) | omega) _))
  by_cases hb : vB u v = true
  case neg =>
    rw [ha] at v1
    rw [show vB u v = false by simpa using hb] at v2
    clear ha
    go_enter Try.func8, Try.ntmps8
    go_wp2_with (first | (go_at_call 9; (with_reducible refine (v1 _).mono ?_); rintro e w1 ⟨rfl, hb1⟩; have k1_b3_0 : w1.cell? ⟨w.heap.size, 0, none⟩ = some (.int .i64 x) := bcs hb1 (by go_simp); have g1_b3_0 : w1.frozen? ⟨w.heap.size, 0, none⟩ = false := bfs hb1 (v := .int .i64 x) (by go_simp) (by go_simp); have k1_b3_1 : w1.cell? ⟨w.heap.size, 1, none⟩ = some (.int .i64 y) := bcs hb1 (by go_simp); have g1_b3_1 : w1.frozen? ⟨w.heap.size, 1, none⟩ = false := bfs hb1 (v := .int .i64 y) (by go_simp) (by go_simp); have k1_b4_0 : w1.cell? ⟨w.heap.size + 1, 0, none⟩ = some (.int .i64 u) := bcs hb1 (by go_simp); have g1_b4_0 : w1.frozen? ⟨w.heap.size + 1, 0, none⟩ = false := bfs hb1 (v := .int .i64 u) (by go_simp) (by go_simp); have k1_b4_1 : w1.cell? ⟨w.heap.size + 1, 1, none⟩ = some (.int .i64 v) := bcs hb1 (by go_simp); have g1_b4_1 : w1.frozen? ⟨w.heap.size + 1, 1, none⟩ = false := bfs hb1 (v := .int .i64 v) (by go_simp) (by go_simp); have k1_b5_0 : w1.cell? ⟨w.heap.size + 1 + 1, 0, none⟩ = some (.int .i64 n) := bcs hb1 (by go_simp); have g1_b5_0 : w1.frozen? ⟨w.heap.size + 1 + 1, 0, none⟩ = false := bfs hb1 (v := .int .i64 n) (by go_simp) (by go_simp); have k1_b5_1 : w1.cell? ⟨w.heap.size + 1 + 1, 1, none⟩ = some (.int .i64 d) := bcs hb1 (by go_simp); have g1_b5_1 : w1.frozen? ⟨w.heap.size + 1 + 1, 1, none⟩ = false := bfs hb1 (v := .int .i64 d) (by go_simp) (by go_simp); have q1_b3 : w.heap.size < w1.heap.size := qlt k1_b3_0; have x1_b3 : ¬ w.heap.size = w1.heap.size := qne k1_b3_0; have y1_b3 : ¬ w1.heap.size = w.heap.size := fun h => qne k1_b3_0 h.symm; have q1_b4 : w.heap.size + 1 < w1.heap.size := qlt k1_b4_0; have x1_b4 : ¬ w.heap.size + 1 = w1.heap.size := qne k1_b4_0; have y1_b4 : ¬ w1.heap.size = w.heap.size + 1 := fun h => qne k1_b4_0 h.symm; have q1_b5 : w.heap.size + 1 + 1 < w1.heap.size := qlt k1_b5_0; have x1_b5 : ¬ w.heap.size + 1 + 1 = w1.heap.size := qne k1_b5_0; have y1_b5 : ¬ w1.heap.size = w.heap.size + 1 + 1 := fun h => qne k1_b5_0 h.symm; have B1 : Below w.heap.size w w1 := bel_step (by repeat (first | with_reducible exact Below.refl _ _ | fail | with_reducible apply below_drewN | with_reducible apply Below.drew | (with_reducible refine Below.alloc ?_ (by first | (simp; done) | (simp; omega) | omega) _) | (with_reducible refine Below.setCell ?_ (by first | (simp; done) | (simp; omega) | omega) _))) hb1; have z1 : w.heap.size + 1 + 1 + 1 ≤ w1.heap.size := Nat.le_trans (by first | with_reducible assumption | (simp; done) | (simp; omega)) hb1.size; clear hb1) | (go_at_call 9; (with_reducible refine (v2 _).mono ?_); rintro e w2 ⟨rfl, hb2⟩; have k2_b3_0 : w2.cell? ⟨w.heap.size, 0, none⟩ = some (.int .i64 x) := bcs hb2 (by go_simp); have g2_b3_0 : w2.frozen? ⟨w.heap.size, 0, none⟩ = false := bfs hb2 (v := .int .i64 x) (by go_simp) (by go_simp); have k2_b3_1 : w2.cell? ⟨w.heap.size, 1, none⟩ = some (.int .i64 y) := bcs hb2 (by go_simp); have g2_b3_1 : w2.frozen? ⟨w.heap.size, 1, none⟩ = false := bfs hb2 (v := .int .i64 y) (by go_simp) (by go_simp); have k2_b4_0 : w2.cell? ⟨w.heap.size + 1, 0, none⟩ = some (.int .i64 u) := bcs hb2 (by go_simp); have g2_b4_0 : w2.frozen? ⟨w.heap.size + 1, 0, none⟩ = false := bfs hb2 (v := .int .i64 u) (by go_simp) (by go_simp); have k2_b4_1 : w2.cell? ⟨w.heap.size + 1, 1, none⟩ = some (.int .i64 v) := bcs hb2 (by go_simp); have g2_b4_1 : w2.frozen? ⟨w.heap.size + 1, 1, none⟩ = false := bfs hb2 (v := .int .i64 v) (by go_simp) (by go_simp); have k2_b5_0 : w2.cell? ⟨w.heap.size + 1 + 1, 0, none⟩ = some (.int .i64 n) := bcs hb2 (by go_simp); have g2_b5_0 : w2.frozen? ⟨w.heap.size + 1 + 1, 0, none⟩ = false := bfs hb2 (v := .int .i64 n) (by go_simp) (by go_simp); have k2_b5_1 : w2.cell? ⟨w.heap.size + 1 + 1, 1, none⟩ = some (.int .i64 d) := bcs hb2 (by go_simp); have g2_b5_1 : w2.frozen? ⟨w.heap.size + 1 + 1, 1, none⟩ = false := bfs hb2 (v := .int .i64 d) (by go_simp) (by go_simp); have q2_b3 : w.heap.size < w2.heap.size := qlt k2_b3_0; have x2_b3 : ¬ w.heap.size = w2.heap.size := qne k2_b3_0; have y2_b3 : ¬ w2.heap.size = w.heap.size := fun h => qne k2_b3_0 h.symm; have q2_b4 : w.heap.size + 1 < w2.heap.size := qlt k2_b4_0; have x2_b4 : ¬ w.heap.size + 1 = w2.heap.size := qne k2_b4_0; have y2_b4 : ¬ w2.heap.size = w.heap.size + 1 := fun h => qne k2_b4_0 h.symm; have q2_b5 : w.heap.size + 1 + 1 < w2.heap.size := qlt k2_b5_0; have x2_b5 : ¬ w.heap.size + 1 + 1 = w2.heap.size := qne k2_b5_0; have y2_b5 : ¬ w2.heap.size = w.heap.size + 1 + 1 := fun h => qne k2_b5_0 h.symm; have B2 : Below w.heap.size w w2 := bel_step (by repeat (first | with_reducible exact Below.refl _ _ | with_reducible exact B1 | with_reducible apply below_drewN | with_reducible apply Below.drew | (with_reducible refine Below.alloc ?_ (by first | (simp; done) | (simp; omega) | omega) _) | (with_reducible refine Below.setCell ?_ (by first | (simp; done) | (simp; omega) | omega) _))) hb2; have z2 : w.heap.size + 1 + 1 + 1 ≤ w2.heap.size := Nat.le_trans (by first | with_reducible assumption | (simp; done) | (simp; omega)) hb2.size; clear hb2; (try clear k1_b3_0); (try clear g1_b3_0); (try clear k1_b3_1); (try clear g1_b3_1); (try clear k1_b4_0); (try clear g1_b4_0); (try clear k1_b4_1); (try clear g1_b4_1); (try clear k1_b5_0); (try clear g1_b5_0); (try clear k1_b5_1); (try clear g1_b5_1); (try clear B1); (try clear z1); (try clear q1_b3); (try clear x1_b3); (try clear y1_b3); (try clear q1_b4); (try clear x1_b4); (try clear y1_b4); (try clear q1_b5); (try clear x1_b5); (try clear y1_b5)) | (go_at_call 25; (with_reducible refine (example_any _).mono ?_); rintro e w3 ⟨rfl, hb3⟩; have k3_b3_0 : w3.cell? ⟨w.heap.size, 0, none⟩ = some (.int .i64 x) := bcs hb3 (by go_simp); have g3_b3_0 : w3.frozen? ⟨w.heap.size, 0, none⟩ = false := bfs hb3 (v := .int .i64 x) (by go_simp) (by go_simp); have k3_b3_1 : w3.cell? ⟨w.heap.size, 1, none⟩ = some (.int .i64 y) := bcs hb3 (by go_simp); have g3_b3_1 : w3.frozen? ⟨w.heap.size, 1, none⟩ = false := bfs hb3 (v := .int .i64 y) (by go_simp) (by go_simp); have k3_b4_0 : w3.cell? ⟨w.heap.size + 1, 0, none⟩ = some (.int .i64 u) := bcs hb3 (by go_simp); have g3_b4_0 : w3.frozen? ⟨w.heap.size + 1, 0, none⟩ = false := bfs hb3 (v := .int .i64 u) (by go_simp) (by go_simp); have k3_b4_1 : w3.cell? ⟨w.heap.size + 1, 1, none⟩ = some (.int .i64 v) := bcs hb3 (by go_simp); have g3_b4_1 : w3.frozen? ⟨w.heap.size + 1, 1, none⟩ = false := bfs hb3 (v := .int .i64 v) (by go_simp) (by go_simp); have k3_b5_0 : w3.cell? ⟨w.heap.size + 1 + 1, 0, none⟩ = some (.int .i64 n) := bcs hb3 (by go_simp); have g3_b5_0 : w3.frozen? ⟨w.heap.size + 1 + 1, 0, none⟩ = false := bfs hb3 (v := .int .i64 n) (by go_simp) (by go_simp); have k3_b5_1 : w3.cell? ⟨w.heap.size + 1 + 1, 1, none⟩ = some (.int .i64 d) := bcs hb3 (by go_simp); have g3_b5_1 : w3.frozen? ⟨w.heap.size + 1 + 1, 1, none⟩ = false := bfs hb3 (v := .int .i64 d) (by go_simp) (by go_simp); have q3_b3 : w.heap.size < w3.heap.size := qlt k3_b3_0; have x3_b3 : ¬ w.heap.size = w3.heap.size := qne k3_b3_0; have y3_b3 : ¬ w3.heap.size = w.heap.size := fun h => qne k3_b3_0 h.symm; have q3_b4 : w.heap.size + 1 < w3.heap.size := qlt k3_b4_0; have x3_b4 : ¬ w.heap.size + 1 = w3.heap.size := qne k3_b4_0; have y3_b4 : ¬ w3.heap.size = w.heap.size + 1 := fun h => qne k3_b4_0 h.symm; have q3_b5 : w.heap.size + 1 + 1 < w3.heap.size := qlt k3_b5_0; have x3_b5 : ¬ w.heap.size + 1 + 1 = w3.heap.size := qne k3_b5_0; have y3_b5 : ¬ w3.heap.size = w.heap.size + 1 + 1 := fun h => qne k3_b5_0 h.symm; have B3 : Below w.heap.size w w3 := bel_step (by repeat (first | with_reducible exact Below.refl _ _ | with_reducible exact B2 | with_reducible apply below_drewN | with_reducible apply Below.drew | (with_reducible refine Below.alloc ?_ (by first | (simp; done) | (simp; omega) | omega) _) | (with_reducible refine Below.setCell ?_ (by first | (simp; done) | (simp; omega) | omega) _))) hb3; have z3 : w.heap.size + 1 + 1 + 1 ≤ w3.heap.size := Nat.le_trans (by first | with_reducible assumption | (simp; done) | (simp; omega)) hb3.size; clear hb3; (try clear k2_b3_0); (try clear g2_b3_0); (try clear k2_b3_1); (try clear g2_b3_1); (try clear k2_b4_0); (try clear g2_b4_0); (try clear k2_b4_1); (try clear g2_b4_1); (try clear k2_b5_0); (try clear g2_b5_0); (try clear k2_b5_1); (try clear g2_b5_1); (try clear B2); (try clear z2); (try clear q2_b3); (try clear x2_b3); (try clear y2_b3); (try clear q2_b4); (try clear x2_b4); (try clear y2_b4); (try clear q2_b5); (try clear x2_b5); (try clear y2_b5)))
    go_ret
    refine ⟨rfl, ?_⟩
    repeat (first | with_reducible exact Below.refl _ _ | with_reducible exact B3 | with_reducible apply below_drewN | with_reducible apply Below.drew | (with_reducible refine Below.alloc ?_ (by first | (simp; done) | (simp; omega) | omega) _) | (with_reducible refine Below.setCell ?_ (by first | (simp; done) | (simp; omega) | omega) _))
  rw [ha] at v1
  rw [hb] at v2
  obtain ⟨hx, hy, x0, x1, y0, y1⟩ := vB_of x y ha
  obtain ⟨hu, hv, u0, u1, v0, v1'⟩ := vB_of u v hb
  clear ha hb
  have l1 := fun w => vlerp_any x y u v n d w
  rw [hx, hy, hu, hv] at l1
  by_cases hd : d < 1 ∨ 1099511627776 < d
  · rw [lerpV_out _ _ _ _ hd, lerpV_out _ _ _ _ hd] at l1
    clear hx hy hu hv
    rcases hd with hd | hd
    · skip
      go_enter Try.func8, Try.ntmps8
      go_wp2_with (first | (go_at_call 9; (with_reducible refine (v1 _).mono ?_); rintro e w1 ⟨rfl, hb1⟩; have k1_b3_0 : w1.cell? ⟨w.heap.size, 0, none⟩ = some (.int .i64 x) := bcs hb1 (by go_simp); have g1_b3_0 : w1.frozen? ⟨w.heap.size, 0, none⟩ = false := bfs hb1 (v := .int .i64 x) (by go_simp) (by go_simp); have k1_b3_1 : w1.cell? ⟨w.heap.size, 1, none⟩ = some (.int .i64 y) := bcs hb1 (by go_simp); have g1_b3_1 : w1.frozen? ⟨w.heap.size, 1, none⟩ = false := bfs hb1 (v := .int .i64 y) (by go_simp) (by go_simp); have k1_b4_0 : w1.cell? ⟨w.heap.size + 1, 0, none⟩ = some (.int .i64 u) := bcs hb1 (by go_simp); have g1_b4_0 : w1.frozen? ⟨w.heap.size + 1, 0, none⟩ = false := bfs hb1 (v := .int .i64 u) (by go_simp) (by go_simp); have k1_b4_1 : w1.cell? ⟨w.heap.size + 1, 1, none⟩ = some (.int .i64 v) := bcs hb1 (by go_simp); have g1_b4_1 : w1.frozen? ⟨w.heap.size + 1, 1, none⟩ = false := bfs hb1 (v := .int .i64 v) (by go_simp) (by go_simp); have k1_b5_0 : w1.cell? ⟨w.heap.size + 1 + 1, 0, none⟩ = some (.int .i64 n) := bcs hb1 (by go_simp); have g1_b5_0 : w1.frozen? ⟨w.heap.size + 1 + 1, 0, none⟩ = false := bfs hb1 (v := .int .i64 n) (by go_simp) (by go_simp); have k1_b5_1 : w1.cell? ⟨w.heap.size + 1 + 1, 1, none⟩ = some (.int .i64 d) := bcs hb1 (by go_simp); have g1_b5_1 : w1.frozen? ⟨w.heap.size + 1 + 1, 1, none⟩ = false := bfs hb1 (v := .int .i64 d) (by go_simp) (by go_simp); have q1_b3 : w.heap.size < w1.heap.size := qlt k1_b3_0; have x1_b3 : ¬ w.heap.size = w1.heap.size := qne k1_b3_0; have y1_b3 : ¬ w1.heap.size = w.heap.size := fun h => qne k1_b3_0 h.symm; have q1_b4 : w.heap.size + 1 < w1.heap.size := qlt k1_b4_0; have x1_b4 : ¬ w.heap.size + 1 = w1.heap.size := qne k1_b4_0; have y1_b4 : ¬ w1.heap.size = w.heap.size + 1 := fun h => qne k1_b4_0 h.symm; have q1_b5 : w.heap.size + 1 + 1 < w1.heap.size := qlt k1_b5_0; have x1_b5 : ¬ w.heap.size + 1 + 1 = w1.heap.size := qne k1_b5_0; have y1_b5 : ¬ w1.heap.size = w.heap.size + 1 + 1 := fun h => qne k1_b5_0 h.symm; have B1 : Below w.heap.size w w1 := bel_step (by repeat (first | with_reducible exact Below.refl _ _ | fail | with_reducible apply below_drewN | with_reducible apply Below.drew | (with_reducible refine Below.alloc ?_ (by first | (simp; done) | (simp; omega) | omega) _) | (with_reducible refine Below.setCell ?_ (by first | (simp; done) | (simp; omega) | omega) _))) hb1; have z1 : w.heap.size + 1 + 1 + 1 ≤ w1.heap.size := Nat.le_trans (by first | with_reducible assumption | (simp; done) | (simp; omega)) hb1.size; clear hb1) | (go_at_call 9; (with_reducible refine (v2 _).mono ?_); rintro e w2 ⟨rfl, hb2⟩; have k2_b3_0 : w2.cell? ⟨w.heap.size, 0, none⟩ = some (.int .i64 x) := bcs hb2 (by go_simp); have g2_b3_0 : w2.frozen? ⟨w.heap.size, 0, none⟩ = false := bfs hb2 (v := .int .i64 x) (by go_simp) (by go_simp); have k2_b3_1 : w2.cell? ⟨w.heap.size, 1, none⟩ = some (.int .i64 y) := bcs hb2 (by go_simp); have g2_b3_1 : w2.frozen? ⟨w.heap.size, 1, none⟩ = false := bfs hb2 (v := .int .i64 y) (by go_simp) (by go_simp); have k2_b4_0 : w2.cell? ⟨w.heap.size + 1, 0, none⟩ = some (.int .i64 u) := bcs hb2 (by go_simp); have g2_b4_0 : w2.frozen? ⟨w.heap.size + 1, 0, none⟩ = false := bfs hb2 (v := .int .i64 u) (by go_simp) (by go_simp); have k2_b4_1 : w2.cell? ⟨w.heap.size + 1, 1, none⟩ = some (.int .i64 v) := bcs hb2 (by go_simp); have g2_b4_1 : w2.frozen? ⟨w.heap.size + 1, 1, none⟩ = false := bfs hb2 (v := .int .i64 v) (by go_simp) (by go_simp); have k2_b5_0 : w2.cell? ⟨w.heap.size + 1 + 1, 0, none⟩ = some (.int .i64 n) := bcs hb2 (by go_simp); have g2_b5_0 : w2.frozen? ⟨w.heap.size + 1 + 1, 0, none⟩ = false := bfs hb2 (v := .int .i64 n) (by go_simp) (by go_simp); have k2_b5_1 : w2.cell? ⟨w.heap.size + 1 + 1, 1, none⟩ = some (.int .i64 d) := bcs hb2 (by go_simp); have g2_b5_1 : w2.frozen? ⟨w.heap.size + 1 + 1, 1, none⟩ = false := bfs hb2 (v := .int .i64 d) (by go_simp) (by go_simp); have q2_b3 : w.heap.size < w2.heap.size := qlt k2_b3_0; have x2_b3 : ¬ w.heap.size = w2.heap.size := qne k2_b3_0; have y2_b3 : ¬ w2.heap.size = w.heap.size := fun h => qne k2_b3_0 h.symm; have q2_b4 : w.heap.size + 1 < w2.heap.size := qlt k2_b4_0; have x2_b4 : ¬ w.heap.size + 1 = w2.heap.size := qne k2_b4_0; have y2_b4 : ¬ w2.heap.size = w.heap.size + 1 := fun h => qne k2_b4_0 h.symm; have q2_b5 : w.heap.size + 1 + 1 < w2.heap.size := qlt k2_b5_0; have x2_b5 : ¬ w.heap.size + 1 + 1 = w2.heap.size := qne k2_b5_0; have y2_b5 : ¬ w2.heap.size = w.heap.size + 1 + 1 := fun h => qne k2_b5_0 h.symm; have B2 : Below w.heap.size w w2 := bel_step (by repeat (first | with_reducible exact Below.refl _ _ | with_reducible exact B1 | with_reducible apply below_drewN | with_reducible apply Below.drew | (with_reducible refine Below.alloc ?_ (by first | (simp; done) | (simp; omega) | omega) _) | (with_reducible refine Below.setCell ?_ (by first | (simp; done) | (simp; omega) | omega) _))) hb2; have z2 : w.heap.size + 1 + 1 + 1 ≤ w2.heap.size := Nat.le_trans (by first | with_reducible assumption | (simp; done) | (simp; omega)) hb2.size; clear hb2; (try clear k1_b3_0); (try clear g1_b3_0); (try clear k1_b3_1); (try clear g1_b3_1); (try clear k1_b4_0); (try clear g1_b4_0); (try clear k1_b4_1); (try clear g1_b4_1); (try clear k1_b5_0); (try clear g1_b5_0); (try clear k1_b5_1); (try clear g1_b5_1); (try clear B1); (try clear z1); (try clear q1_b3); (try clear x1_b3); (try clear y1_b3); (try clear q1_b4); (try clear x1_b4); (try clear y1_b4); (try clear q1_b5); (try clear x1_b5); (try clear y1_b5)))
      refine wp_region_env (fun w' => w'.cell? ⟨w.heap.size, 0, none⟩ = some (.int .i64 x) ∧ w'.frozen? ⟨w.heap.size, 0, none⟩ = false ∧ w'.cell? ⟨w.heap.size, 1, none⟩ = some (.int .i64 y) ∧ w'.frozen? ⟨w.heap.size, 1, none⟩ = false ∧ w'.cell? ⟨w.heap.size + 1, 0, none⟩ = some (.int .i64 u) ∧ w'.frozen? ⟨w.heap.size + 1, 0, none⟩ = false ∧ w'.cell? ⟨w.heap.size + 1, 1, none⟩ = some (.int .i64 v) ∧ w'.frozen? ⟨w.heap.size + 1, 1, none⟩ = false ∧ w'.cell? ⟨w.heap.size + 1 + 1, 0, none⟩ = some (.int .i64 n) ∧ w'.frozen? ⟨w.heap.size + 1 + 1, 0, none⟩ = false ∧ w'.cell? ⟨w.heap.size + 1 + 1, 1, none⟩ = some (.int .i64 d) ∧ w'.frozen? ⟨w.heap.size + 1 + 1, 1, none⟩ = false) (fun W => W.cell? ⟨w.heap.size, 0, none⟩ = some (.int .i64 x) ∧ W.frozen? ⟨w.heap.size, 0, none⟩ = false ∧ W.cell? ⟨w.heap.size, 1, none⟩ = some (.int .i64 y) ∧ W.frozen? ⟨w.heap.size, 1, none⟩ = false ∧ W.cell? ⟨w.heap.size + 1, 0, none⟩ = some (.int .i64 u) ∧ W.frozen? ⟨w.heap.size + 1, 0, none⟩ = false ∧ W.cell? ⟨w.heap.size + 1, 1, none⟩ = some (.int .i64 v) ∧ W.frozen? ⟨w.heap.size + 1, 1, none⟩ = false ∧ W.cell? ⟨w.heap.size + 1 + 1, 0, none⟩ = some (.int .i64 n) ∧ W.frozen? ⟨w.heap.size + 1 + 1, 0, none⟩ = false ∧ W.cell? ⟨w.heap.size + 1 + 1, 1, none⟩ = some (.int .i64 d) ∧ W.frozen? ⟨w.heap.size + 1 + 1, 1, none⟩ = false ∧ Below w.heap.size w W ∧ w.heap.size + 1 + 1 + 1 ≤ W.heap.size) 6 139 [.val (.pointer (some ⟨w.heap.size + 1 + 1, 0, none⟩)), .val (.int .i64 n), .val (.pointer (some ⟨w.heap.size + 1 + 1, 1, none⟩)), .val (.int .i64 d), .val (.int .i64 n), .val (.int .i64 d)] (by kernel_rfl) (by kernel_rfl) rfl (by kernel_rfl) (by rintro w1 w2 ⟨h0, h1, h2, h3, h4, h5, h6, h7, h8, h9, h10, h11⟩ hb; exact ⟨bcs hb h0, bfs hb h0 h1, bcs hb h2, bfs hb h2 h3, bcs hb h4, bfs hb h4 h5, bcs hb h6, bfs hb h6 h7, bcs hb h8, bfs hb h8 h9, bcs hb h10, bfs hb h10 h11⟩) ⟨by first | with_reducible assumption | go_simp, by first | with_reducible assumption | go_simp, by first | with_reducible assumption | go_simp, by first | with_reducible assumption | go_simp, by first | with_reducible assumption | go_simp, by first | with_reducible assumption | go_simp, by first | with_reducible assumption | go_simp, by first | with_reducible assumption | go_simp, by first | with_reducible assumption | go_simp, by first | with_reducible assumption | go_simp, by first | with_reducible assumption | go_simp, by first | with_reducible assumption | go_simp, by repeat (first | with_reducible exact Below.refl _ _ | with_reducible exact B2 | with_reducible apply below_drewN | with_reducible apply Below.drew | (with_reducible refine Below.alloc ?_ (by first | (simp; done) | (simp; omega) | omega) _) | (with_reducible refine Below.setCell ?_ (by first | (simp; done) | (simp; omega) | omega) _)), by first | with_reducible assumption | (simp; done) | (simp; omega)⟩ ?_ ?_
      · rintro W ⟨k3_b3_0, g3_b3_0, k3_b3_1, g3_b3_1, k3_b4_0, g3_b4_0, k3_b4_1, g3_b4_1, k3_b5_0, g3_b5_0, k3_b5_1, g3_b5_1, B3, z3⟩; exact ⟨k3_b3_0, g3_b3_0, k3_b3_1, g3_b3_1, k3_b4_0, g3_b4_0, k3_b4_1, g3_b4_1, k3_b5_0, g3_b5_0, k3_b5_1, g3_b5_1⟩
      (try clear B2)
      (try clear z2)
      (try clear k2_b3_0)
      (try clear g2_b3_0)
      (try clear k2_b3_1)
      (try clear g2_b3_1)
      (try clear k2_b4_0)
      (try clear g2_b4_0)
      (try clear k2_b4_1)
      (try clear g2_b4_1)
      (try clear k2_b5_0)
      (try clear g2_b5_0)
      (try clear k2_b5_1)
      (try clear g2_b5_1)
      (try clear q2_b3)
      (try clear x2_b3)
      (try clear y2_b3)
      (try clear q2_b4)
      (try clear x2_b4)
      (try clear y2_b4)
      (try clear q2_b5)
      (try clear x2_b5)
      (try clear y2_b5)
      rintro w3 ⟨k3_b3_0, g3_b3_0, k3_b3_1, g3_b3_1, k3_b4_0, g3_b4_0, k3_b4_1, g3_b4_1, k3_b5_0, g3_b5_0, k3_b5_1, g3_b5_1, B3, z3⟩ gg
      simp only [List.take_succ_cons, List.take_zero, List.drop_succ_cons, List.drop_zero, List.cons_append, List.nil_append, List.append_nil]
      refine obe_val (by rfl) ?_ ?_
      · clear k3_b3_0 g3_b3_0 k3_b3_1 g3_b3_1 k3_b4_0 g3_b4_0 k3_b4_1 g3_b4_1 k3_b5_0 g3_b5_0 k3_b5_1 g3_b5_1 B3 z3; intro f hf; have u5 : f 5 = (.pointer (some ⟨w.heap.size + 1 + 1, 0, none⟩)) := (by rw [← hf]; rfl); clear hf; rintro w' ⟨h0, h1, h2, h3, h4, h5, h6, h7, h8, h9, h10, h11⟩; go_simp; try exact IntWalk.i64_in _ (by omega)
      refine obe_val (by rfl) ?_ ?_
      · clear k3_b3_0 g3_b3_0 k3_b3_1 g3_b3_1 k3_b4_0 g3_b4_0 k3_b4_1 g3_b4_1 k3_b5_0 g3_b5_0 k3_b5_1 g3_b5_1 B3 z3; intro f hf; have u21 : f 21 = (.pointer (some ⟨w.heap.size + 1 + 1, 0, none⟩)) := (by rw [← hf]; rfl); clear hf; rintro w' ⟨h0, h1, h2, h3, h4, h5, h6, h7, h8, h9, h10, h11⟩; go_simp; try exact IntWalk.i64_in _ (by omega)
      refine obe_val (by rfl) ?_ ?_
      · clear k3_b3_0 g3_b3_0 k3_b3_1 g3_b3_1 k3_b4_0 g3_b4_0 k3_b4_1 g3_b4_1 k3_b5_0 g3_b5_0 k3_b5_1 g3_b5_1 B3 z3; intro f hf; have u5 : f 5 = (.pointer (some ⟨w.heap.size + 1 + 1, 0, none⟩)) := (by rw [← hf]; rfl); clear hf; rintro w' ⟨h0, h1, h2, h3, h4, h5, h6, h7, h8, h9, h10, h11⟩; go_simp; try exact IntWalk.i64_in _ (by omega)
      refine obe_val (by rfl) ?_ ?_
      · clear k3_b3_0 g3_b3_0 k3_b3_1 g3_b3_1 k3_b4_0 g3_b4_0 k3_b4_1 g3_b4_1 k3_b5_0 g3_b5_0 k3_b5_1 g3_b5_1 B3 z3; intro f hf; have u23 : f 23 = (.pointer (some ⟨w.heap.size + 1 + 1, 1, none⟩)) := (by rw [← hf]; rfl); clear hf; rintro w' ⟨h0, h1, h2, h3, h4, h5, h6, h7, h8, h9, h10, h11⟩; go_simp; try exact IntWalk.i64_in _ (by omega)
      refine obe_val (by rfl) ?_ ?_
      · clear k3_b3_0 g3_b3_0 k3_b3_1 g3_b3_1 k3_b4_0 g3_b4_0 k3_b4_1 g3_b4_1 k3_b5_0 g3_b5_0 k3_b5_1 g3_b5_1 B3 z3; intro f hf; have u22 : f 22 = (.int .i64 n) := (by rw [← hf]; rfl); clear hf; rintro w' ⟨h0, h1, h2, h3, h4, h5, h6, h7, h8, h9, h10, h11⟩; go_simp; try exact IntWalk.i64_in _ (by omega)
      refine obe_val (by rfl) ?_ ?_
      · clear k3_b3_0 g3_b3_0 k3_b3_1 g3_b3_1 k3_b4_0 g3_b4_0 k3_b4_1 g3_b4_1 k3_b5_0 g3_b5_0 k3_b5_1 g3_b5_1 B3 z3; intro f hf; have u24 : f 24 = (.int .i64 d) := (by rw [← hf]; rfl); clear hf; rintro w' ⟨h0, h1, h2, h3, h4, h5, h6, h7, h8, h9, h10, h11⟩; go_simp; try exact IntWalk.i64_in _ (by omega)
      refine obe_nil ?_
      rintro w4 ⟨h0, h1, h2, h3, h4, h5, h6, h7, h8, h9, h10, h11⟩ hb4 hF
      (try simp only [List.nil_append, List.append_nil, List.cons_append] at hF)
      simp only [puts, putD, Act.put, List.setIfInBounds_toArray, List.set_cons_zero, List.set_cons_succ]
      clear hF
      have k4_b3_0 := bcs hb4 k3_b3_0
      have g4_b3_0 := bfs hb4 k3_b3_0 g3_b3_0
      have k4_b3_1 := bcs hb4 k3_b3_1
      have g4_b3_1 := bfs hb4 k3_b3_1 g3_b3_1
      have k4_b4_0 := bcs hb4 k3_b4_0
      have g4_b4_0 := bfs hb4 k3_b4_0 g3_b4_0
      have k4_b4_1 := bcs hb4 k3_b4_1
      have g4_b4_1 := bfs hb4 k3_b4_1 g3_b4_1
      have k4_b5_0 := bcs hb4 k3_b5_0
      have g4_b5_0 := bfs hb4 k3_b5_0 g3_b5_0
      have k4_b5_1 := bcs hb4 k3_b5_1
      have g4_b5_1 := bfs hb4 k3_b5_1 g3_b5_1
      clear h0 h1 h2 h3 h4 h5 h6 h7 h8 h9 h10 h11
      have B4 := bel_step B3 hb4
      have z4 := Nat.le_trans z3 hb4.size
      clear hb4
      (try clear B3)
      (try clear z3)
      (try clear k3_b3_0)
      (try clear g3_b3_0)
      (try clear k3_b3_1)
      (try clear g3_b3_1)
      (try clear k3_b4_0)
      (try clear g3_b4_0)
      (try clear k3_b4_1)
      (try clear g3_b4_1)
      (try clear k3_b5_0)
      (try clear g3_b5_0)
      (try clear k3_b5_1)
      (try clear g3_b5_1)
      (try clear q3_b3)
      (try clear x3_b3)
      (try clear y3_b3)
      (try clear q3_b4)
      (try clear x3_b4)
      (try clear y3_b4)
      (try clear q3_b5)
      (try clear x3_b5)
      (try clear y3_b5)
      have q4_b3 : w.heap.size < w4.heap.size := qlt k4_b3_0
      have x4_b3 : ¬ w.heap.size = w4.heap.size := qne k4_b3_0
      have y4_b3 : ¬ w4.heap.size = w.heap.size := fun h => qne k4_b3_0 h.symm
      have q4_b4 : w.heap.size + 1 < w4.heap.size := qlt k4_b4_0
      have x4_b4 : ¬ w.heap.size + 1 = w4.heap.size := qne k4_b4_0
      have y4_b4 : ¬ w4.heap.size = w.heap.size + 1 := fun h => qne k4_b4_0 h.symm
      have q4_b5 : w.heap.size + 1 + 1 < w4.heap.size := qlt k4_b5_0
      have x4_b5 : ¬ w.heap.size + 1 + 1 = w4.heap.size := qne k4_b5_0
      have y4_b5 : ¬ w4.heap.size = w.heap.size + 1 + 1 := fun h => qne k4_b5_0 h.symm
      unfold wpList
      go_wp2_with (first | (go_at_call 30; (with_reducible refine (l1 _).mono ?_); rintro e w5 ⟨rfl, hb5⟩; have k5_b3_0 : w5.cell? ⟨w.heap.size, 0, none⟩ = some (.int .i64 x) := bcs hb5 (by go_simp); have g5_b3_0 : w5.frozen? ⟨w.heap.size, 0, none⟩ = false := bfs hb5 (v := .int .i64 x) (by go_simp) (by go_simp); have k5_b3_1 : w5.cell? ⟨w.heap.size, 1, none⟩ = some (.int .i64 y) := bcs hb5 (by go_simp); have g5_b3_1 : w5.frozen? ⟨w.heap.size, 1, none⟩ = false := bfs hb5 (v := .int .i64 y) (by go_simp) (by go_simp); have k5_b4_0 : w5.cell? ⟨w.heap.size + 1, 0, none⟩ = some (.int .i64 u) := bcs hb5 (by go_simp); have g5_b4_0 : w5.frozen? ⟨w.heap.size + 1, 0, none⟩ = false := bfs hb5 (v := .int .i64 u) (by go_simp) (by go_simp); have k5_b4_1 : w5.cell? ⟨w.heap.size + 1, 1, none⟩ = some (.int .i64 v) := bcs hb5 (by go_simp); have g5_b4_1 : w5.frozen? ⟨w.heap.size + 1, 1, none⟩ = false := bfs hb5 (v := .int .i64 v) (by go_simp) (by go_simp); have k5_b5_0 : w5.cell? ⟨w.heap.size + 1 + 1, 0, none⟩ = some (.int .i64 n) := bcs hb5 (by go_simp); have g5_b5_0 : w5.frozen? ⟨w.heap.size + 1 + 1, 0, none⟩ = false := bfs hb5 (v := .int .i64 n) (by go_simp) (by go_simp); have k5_b5_1 : w5.cell? ⟨w.heap.size + 1 + 1, 1, none⟩ = some (.int .i64 d) := bcs hb5 (by go_simp); have g5_b5_1 : w5.frozen? ⟨w.heap.size + 1 + 1, 1, none⟩ = false := bfs hb5 (v := .int .i64 d) (by go_simp) (by go_simp); have q5_b3 : w.heap.size < w5.heap.size := qlt k5_b3_0; have x5_b3 : ¬ w.heap.size = w5.heap.size := qne k5_b3_0; have y5_b3 : ¬ w5.heap.size = w.heap.size := fun h => qne k5_b3_0 h.symm; have q5_b4 : w.heap.size + 1 < w5.heap.size := qlt k5_b4_0; have x5_b4 : ¬ w.heap.size + 1 = w5.heap.size := qne k5_b4_0; have y5_b4 : ¬ w5.heap.size = w.heap.size + 1 := fun h => qne k5_b4_0 h.symm; have q5_b5 : w.heap.size + 1 + 1 < w5.heap.size := qlt k5_b5_0; have x5_b5 : ¬ w.heap.size + 1 + 1 = w5.heap.size := qne k5_b5_0; have y5_b5 : ¬ w5.heap.size = w.heap.size + 1 + 1 := fun h => qne k5_b5_0 h.symm; have B5 : Below w.heap.size w w5 := bel_step (by repeat (first | with_reducible exact Below.refl _ _ | with_reducible exact B4 | with_reducible apply below_drewN | with_reducible apply Below.drew | (with_reducible refine Below.alloc ?_ (by first | (simp; done) | (simp; omega) | omega) _) | (with_reducible refine Below.setCell ?_ (by first | (simp; done) | (simp; omega) | omega) _))) hb5; have z5 : w.heap.size + 1 + 1 + 1 ≤ w5.heap.size := Nat.le_trans (by first | with_reducible assumption | (simp; done) | (simp; omega)) hb5.size; clear hb5; (try clear k4_b3_0); (try clear g4_b3_0); (try clear k4_b3_1); (try clear g4_b3_1); (try clear k4_b4_0); (try clear g4_b4_0); (try clear k4_b4_1); (try clear g4_b4_1); (try clear k4_b5_0); (try clear g4_b5_0); (try clear k4_b5_1); (try clear g4_b5_1); (try clear B4); (try clear z4); (try clear q4_b3); (try clear x4_b3); (try clear y4_b3); (try clear q4_b4); (try clear x4_b4); (try clear y4_b4); (try clear q4_b5); (try clear x4_b5); (try clear y4_b5)) | (go_at_call 25; (with_reducible refine (example_any _).mono ?_); rintro e w6 ⟨rfl, hb6⟩; have k6_b3_0 : w6.cell? ⟨w.heap.size, 0, none⟩ = some (.int .i64 x) := bcs hb6 (by go_simp); have g6_b3_0 : w6.frozen? ⟨w.heap.size, 0, none⟩ = false := bfs hb6 (v := .int .i64 x) (by go_simp) (by go_simp); have k6_b3_1 : w6.cell? ⟨w.heap.size, 1, none⟩ = some (.int .i64 y) := bcs hb6 (by go_simp); have g6_b3_1 : w6.frozen? ⟨w.heap.size, 1, none⟩ = false := bfs hb6 (v := .int .i64 y) (by go_simp) (by go_simp); have k6_b4_0 : w6.cell? ⟨w.heap.size + 1, 0, none⟩ = some (.int .i64 u) := bcs hb6 (by go_simp); have g6_b4_0 : w6.frozen? ⟨w.heap.size + 1, 0, none⟩ = false := bfs hb6 (v := .int .i64 u) (by go_simp) (by go_simp); have k6_b4_1 : w6.cell? ⟨w.heap.size + 1, 1, none⟩ = some (.int .i64 v) := bcs hb6 (by go_simp); have g6_b4_1 : w6.frozen? ⟨w.heap.size + 1, 1, none⟩ = false := bfs hb6 (v := .int .i64 v) (by go_simp) (by go_simp); have k6_b5_0 : w6.cell? ⟨w.heap.size + 1 + 1, 0, none⟩ = some (.int .i64 n) := bcs hb6 (by go_simp); have g6_b5_0 : w6.frozen? ⟨w.heap.size + 1 + 1, 0, none⟩ = false := bfs hb6 (v := .int .i64 n) (by go_simp) (by go_simp); have k6_b5_1 : w6.cell? ⟨w.heap.size + 1 + 1, 1, none⟩ = some (.int .i64 d) := bcs hb6 (by go_simp); have g6_b5_1 : w6.frozen? ⟨w.heap.size + 1 + 1, 1, none⟩ = false := bfs hb6 (v := .int .i64 d) (by go_simp) (by go_simp); have k6_g9_0 : w6.cell? ⟨w5.heap.size, 0, none⟩ = some (.int .i64 x) := bcs hb6 (by go_simp); have g6_g9_0 : w6.frozen? ⟨w5.heap.size, 0, none⟩ = false := bfs hb6 (v := .int .i64 x) (by go_simp) (by go_simp); have k6_g9_1 : w6.cell? ⟨w5.heap.size, 1, none⟩ = some (.int .i64 y) := bcs hb6 (by go_simp); have g6_g9_1 : w6.frozen? ⟨w5.heap.size, 1, none⟩ = false := bfs hb6 (v := .int .i64 y) (by go_simp) (by go_simp); have q6_b3 : w.heap.size < w6.heap.size := qlt k6_b3_0; have x6_b3 : ¬ w.heap.size = w6.heap.size := qne k6_b3_0; have y6_b3 : ¬ w6.heap.size = w.heap.size := fun h => qne k6_b3_0 h.symm; have q6_b4 : w.heap.size + 1 < w6.heap.size := qlt k6_b4_0; have x6_b4 : ¬ w.heap.size + 1 = w6.heap.size := qne k6_b4_0; have y6_b4 : ¬ w6.heap.size = w.heap.size + 1 := fun h => qne k6_b4_0 h.symm; have q6_b5 : w.heap.size + 1 + 1 < w6.heap.size := qlt k6_b5_0; have x6_b5 : ¬ w.heap.size + 1 + 1 = w6.heap.size := qne k6_b5_0; have y6_b5 : ¬ w6.heap.size = w.heap.size + 1 + 1 := fun h => qne k6_b5_0 h.symm; have q6_g9 : w5.heap.size < w6.heap.size := qlt k6_g9_0; have x6_g9 : ¬ w5.heap.size = w6.heap.size := qne k6_g9_0; have y6_g9 : ¬ w6.heap.size = w5.heap.size := fun h => qne k6_g9_0 h.symm; have B6 : Below w.heap.size w w6 := bel_step (by repeat (first | with_reducible exact Below.refl _ _ | with_reducible exact B5 | with_reducible apply below_drewN | with_reducible apply Below.drew | (with_reducible refine Below.alloc ?_ (by first | (simp; done) | (simp; omega) | omega) _) | (with_reducible refine Below.setCell ?_ (by first | (simp; done) | (simp; omega) | omega) _))) hb6; have z6 : w.heap.size + 1 + 1 + 1 ≤ w6.heap.size := Nat.le_trans (by first | with_reducible assumption | (simp; done) | (simp; omega)) hb6.size; clear hb6; (try clear k5_b3_0); (try clear g5_b3_0); (try clear k5_b3_1); (try clear g5_b3_1); (try clear k5_b4_0); (try clear g5_b4_0); (try clear k5_b4_1); (try clear g5_b4_1); (try clear k5_b5_0); (try clear g5_b5_0); (try clear k5_b5_1); (try clear g5_b5_1); (try clear k5_g9_0); (try clear g5_g9_0); (try clear k5_g9_1); (try clear g5_g9_1); (try clear B5); (try clear z5); (try clear q5_b3); (try clear x5_b3); (try clear y5_b3); (try clear q5_b4); (try clear x5_b4); (try clear y5_b4); (try clear q5_b5); (try clear x5_b5); (try clear y5_b5); (try clear q5_g9); (try clear x5_g9); (try clear y5_g9)))
      go_ret
      refine ⟨rfl, ?_⟩
      repeat (first | with_reducible exact Below.refl _ _ | with_reducible exact B6 | with_reducible apply below_drewN | with_reducible apply Below.drew | (with_reducible refine Below.alloc ?_ (by first | (simp; done) | (simp; omega) | omega) _) | (with_reducible refine Below.setCell ?_ (by first | (simp; done) | (simp; omega) | omega) _))
    · have hd1 : ¬ d < 1 := by omega
      go_enter Try.func8, Try.ntmps8
      go_wp2_with (first | (go_at_call 9; (with_reducible refine (v1 _).mono ?_); rintro e w1 ⟨rfl, hb1⟩; have k1_b3_0 : w1.cell? ⟨w.heap.size, 0, none⟩ = some (.int .i64 x) := bcs hb1 (by go_simp); have g1_b3_0 : w1.frozen? ⟨w.heap.size, 0, none⟩ = false := bfs hb1 (v := .int .i64 x) (by go_simp) (by go_simp); have k1_b3_1 : w1.cell? ⟨w.heap.size, 1, none⟩ = some (.int .i64 y) := bcs hb1 (by go_simp); have g1_b3_1 : w1.frozen? ⟨w.heap.size, 1, none⟩ = false := bfs hb1 (v := .int .i64 y) (by go_simp) (by go_simp); have k1_b4_0 : w1.cell? ⟨w.heap.size + 1, 0, none⟩ = some (.int .i64 u) := bcs hb1 (by go_simp); have g1_b4_0 : w1.frozen? ⟨w.heap.size + 1, 0, none⟩ = false := bfs hb1 (v := .int .i64 u) (by go_simp) (by go_simp); have k1_b4_1 : w1.cell? ⟨w.heap.size + 1, 1, none⟩ = some (.int .i64 v) := bcs hb1 (by go_simp); have g1_b4_1 : w1.frozen? ⟨w.heap.size + 1, 1, none⟩ = false := bfs hb1 (v := .int .i64 v) (by go_simp) (by go_simp); have k1_b5_0 : w1.cell? ⟨w.heap.size + 1 + 1, 0, none⟩ = some (.int .i64 n) := bcs hb1 (by go_simp); have g1_b5_0 : w1.frozen? ⟨w.heap.size + 1 + 1, 0, none⟩ = false := bfs hb1 (v := .int .i64 n) (by go_simp) (by go_simp); have k1_b5_1 : w1.cell? ⟨w.heap.size + 1 + 1, 1, none⟩ = some (.int .i64 d) := bcs hb1 (by go_simp); have g1_b5_1 : w1.frozen? ⟨w.heap.size + 1 + 1, 1, none⟩ = false := bfs hb1 (v := .int .i64 d) (by go_simp) (by go_simp); have q1_b3 : w.heap.size < w1.heap.size := qlt k1_b3_0; have x1_b3 : ¬ w.heap.size = w1.heap.size := qne k1_b3_0; have y1_b3 : ¬ w1.heap.size = w.heap.size := fun h => qne k1_b3_0 h.symm; have q1_b4 : w.heap.size + 1 < w1.heap.size := qlt k1_b4_0; have x1_b4 : ¬ w.heap.size + 1 = w1.heap.size := qne k1_b4_0; have y1_b4 : ¬ w1.heap.size = w.heap.size + 1 := fun h => qne k1_b4_0 h.symm; have q1_b5 : w.heap.size + 1 + 1 < w1.heap.size := qlt k1_b5_0; have x1_b5 : ¬ w.heap.size + 1 + 1 = w1.heap.size := qne k1_b5_0; have y1_b5 : ¬ w1.heap.size = w.heap.size + 1 + 1 := fun h => qne k1_b5_0 h.symm; have B1 : Below w.heap.size w w1 := bel_step (by repeat (first | with_reducible exact Below.refl _ _ | fail | with_reducible apply below_drewN | with_reducible apply Below.drew | (with_reducible refine Below.alloc ?_ (by first | (simp; done) | (simp; omega) | omega) _) | (with_reducible refine Below.setCell ?_ (by first | (simp; done) | (simp; omega) | omega) _))) hb1; have z1 : w.heap.size + 1 + 1 + 1 ≤ w1.heap.size := Nat.le_trans (by first | with_reducible assumption | (simp; done) | (simp; omega)) hb1.size; clear hb1) | (go_at_call 9; (with_reducible refine (v2 _).mono ?_); rintro e w2 ⟨rfl, hb2⟩; have k2_b3_0 : w2.cell? ⟨w.heap.size, 0, none⟩ = some (.int .i64 x) := bcs hb2 (by go_simp); have g2_b3_0 : w2.frozen? ⟨w.heap.size, 0, none⟩ = false := bfs hb2 (v := .int .i64 x) (by go_simp) (by go_simp); have k2_b3_1 : w2.cell? ⟨w.heap.size, 1, none⟩ = some (.int .i64 y) := bcs hb2 (by go_simp); have g2_b3_1 : w2.frozen? ⟨w.heap.size, 1, none⟩ = false := bfs hb2 (v := .int .i64 y) (by go_simp) (by go_simp); have k2_b4_0 : w2.cell? ⟨w.heap.size + 1, 0, none⟩ = some (.int .i64 u) := bcs hb2 (by go_simp); have g2_b4_0 : w2.frozen? ⟨w.heap.size + 1, 0, none⟩ = false := bfs hb2 (v := .int .i64 u) (by go_simp) (by go_simp); have k2_b4_1 : w2.cell? ⟨w.heap.size + 1, 1, none⟩ = some (.int .i64 v) := bcs hb2 (by go_simp); have g2_b4_1 : w2.frozen? ⟨w.heap.size + 1, 1, none⟩ = false := bfs hb2 (v := .int .i64 v) (by go_simp) (by go_simp); have k2_b5_0 : w2.cell? ⟨w.heap.size + 1 + 1, 0, none⟩ = some (.int .i64 n) := bcs hb2 (by go_simp); have g2_b5_0 : w2.frozen? ⟨w.heap.size + 1 + 1, 0, none⟩ = false := bfs hb2 (v := .int .i64 n) (by go_simp) (by go_simp); have k2_b5_1 : w2.cell? ⟨w.heap.size + 1 + 1, 1, none⟩ = some (.int .i64 d) := bcs hb2 (by go_simp); have g2_b5_1 : w2.frozen? ⟨w.heap.size + 1 + 1, 1, none⟩ = false := bfs hb2 (v := .int .i64 d) (by go_simp) (by go_simp); have q2_b3 : w.heap.size < w2.heap.size := qlt k2_b3_0; have x2_b3 : ¬ w.heap.size = w2.heap.size := qne k2_b3_0; have y2_b3 : ¬ w2.heap.size = w.heap.size := fun h => qne k2_b3_0 h.symm; have q2_b4 : w.heap.size + 1 < w2.heap.size := qlt k2_b4_0; have x2_b4 : ¬ w.heap.size + 1 = w2.heap.size := qne k2_b4_0; have y2_b4 : ¬ w2.heap.size = w.heap.size + 1 := fun h => qne k2_b4_0 h.symm; have q2_b5 : w.heap.size + 1 + 1 < w2.heap.size := qlt k2_b5_0; have x2_b5 : ¬ w.heap.size + 1 + 1 = w2.heap.size := qne k2_b5_0; have y2_b5 : ¬ w2.heap.size = w.heap.size + 1 + 1 := fun h => qne k2_b5_0 h.symm; have B2 : Below w.heap.size w w2 := bel_step (by repeat (first | with_reducible exact Below.refl _ _ | with_reducible exact B1 | with_reducible apply below_drewN | with_reducible apply Below.drew | (with_reducible refine Below.alloc ?_ (by first | (simp; done) | (simp; omega) | omega) _) | (with_reducible refine Below.setCell ?_ (by first | (simp; done) | (simp; omega) | omega) _))) hb2; have z2 : w.heap.size + 1 + 1 + 1 ≤ w2.heap.size := Nat.le_trans (by first | with_reducible assumption | (simp; done) | (simp; omega)) hb2.size; clear hb2; (try clear k1_b3_0); (try clear g1_b3_0); (try clear k1_b3_1); (try clear g1_b3_1); (try clear k1_b4_0); (try clear g1_b4_0); (try clear k1_b4_1); (try clear g1_b4_1); (try clear k1_b5_0); (try clear g1_b5_0); (try clear k1_b5_1); (try clear g1_b5_1); (try clear B1); (try clear z1); (try clear q1_b3); (try clear x1_b3); (try clear y1_b3); (try clear q1_b4); (try clear x1_b4); (try clear y1_b4); (try clear q1_b5); (try clear x1_b5); (try clear y1_b5)))
      refine wp_region_env (fun w' => w'.cell? ⟨w.heap.size, 0, none⟩ = some (.int .i64 x) ∧ w'.frozen? ⟨w.heap.size, 0, none⟩ = false ∧ w'.cell? ⟨w.heap.size, 1, none⟩ = some (.int .i64 y) ∧ w'.frozen? ⟨w.heap.size, 1, none⟩ = false ∧ w'.cell? ⟨w.heap.size + 1, 0, none⟩ = some (.int .i64 u) ∧ w'.frozen? ⟨w.heap.size + 1, 0, none⟩ = false ∧ w'.cell? ⟨w.heap.size + 1, 1, none⟩ = some (.int .i64 v) ∧ w'.frozen? ⟨w.heap.size + 1, 1, none⟩ = false ∧ w'.cell? ⟨w.heap.size + 1 + 1, 0, none⟩ = some (.int .i64 n) ∧ w'.frozen? ⟨w.heap.size + 1 + 1, 0, none⟩ = false ∧ w'.cell? ⟨w.heap.size + 1 + 1, 1, none⟩ = some (.int .i64 d) ∧ w'.frozen? ⟨w.heap.size + 1 + 1, 1, none⟩ = false) (fun W => W.cell? ⟨w.heap.size, 0, none⟩ = some (.int .i64 x) ∧ W.frozen? ⟨w.heap.size, 0, none⟩ = false ∧ W.cell? ⟨w.heap.size, 1, none⟩ = some (.int .i64 y) ∧ W.frozen? ⟨w.heap.size, 1, none⟩ = false ∧ W.cell? ⟨w.heap.size + 1, 0, none⟩ = some (.int .i64 u) ∧ W.frozen? ⟨w.heap.size + 1, 0, none⟩ = false ∧ W.cell? ⟨w.heap.size + 1, 1, none⟩ = some (.int .i64 v) ∧ W.frozen? ⟨w.heap.size + 1, 1, none⟩ = false ∧ W.cell? ⟨w.heap.size + 1 + 1, 0, none⟩ = some (.int .i64 n) ∧ W.frozen? ⟨w.heap.size + 1 + 1, 0, none⟩ = false ∧ W.cell? ⟨w.heap.size + 1 + 1, 1, none⟩ = some (.int .i64 d) ∧ W.frozen? ⟨w.heap.size + 1 + 1, 1, none⟩ = false ∧ Below w.heap.size w W ∧ w.heap.size + 1 + 1 + 1 ≤ W.heap.size) 6 139 [.val (.pointer (some ⟨w.heap.size + 1 + 1, 0, none⟩)), .val (.int .i64 n), .val (.pointer (some ⟨w.heap.size + 1 + 1, 1, none⟩)), .val (.int .i64 d), .val (.int .i64 n), .val (.int .i64 d)] (by kernel_rfl) (by kernel_rfl) rfl (by kernel_rfl) (by rintro w1 w2 ⟨h0, h1, h2, h3, h4, h5, h6, h7, h8, h9, h10, h11⟩ hb; exact ⟨bcs hb h0, bfs hb h0 h1, bcs hb h2, bfs hb h2 h3, bcs hb h4, bfs hb h4 h5, bcs hb h6, bfs hb h6 h7, bcs hb h8, bfs hb h8 h9, bcs hb h10, bfs hb h10 h11⟩) ⟨by first | with_reducible assumption | go_simp, by first | with_reducible assumption | go_simp, by first | with_reducible assumption | go_simp, by first | with_reducible assumption | go_simp, by first | with_reducible assumption | go_simp, by first | with_reducible assumption | go_simp, by first | with_reducible assumption | go_simp, by first | with_reducible assumption | go_simp, by first | with_reducible assumption | go_simp, by first | with_reducible assumption | go_simp, by first | with_reducible assumption | go_simp, by first | with_reducible assumption | go_simp, by repeat (first | with_reducible exact Below.refl _ _ | with_reducible exact B2 | with_reducible apply below_drewN | with_reducible apply Below.drew | (with_reducible refine Below.alloc ?_ (by first | (simp; done) | (simp; omega) | omega) _) | (with_reducible refine Below.setCell ?_ (by first | (simp; done) | (simp; omega) | omega) _)), by first | with_reducible assumption | (simp; done) | (simp; omega)⟩ ?_ ?_
      · rintro W ⟨k3_b3_0, g3_b3_0, k3_b3_1, g3_b3_1, k3_b4_0, g3_b4_0, k3_b4_1, g3_b4_1, k3_b5_0, g3_b5_0, k3_b5_1, g3_b5_1, B3, z3⟩; exact ⟨k3_b3_0, g3_b3_0, k3_b3_1, g3_b3_1, k3_b4_0, g3_b4_0, k3_b4_1, g3_b4_1, k3_b5_0, g3_b5_0, k3_b5_1, g3_b5_1⟩
      (try clear B2)
      (try clear z2)
      (try clear k2_b3_0)
      (try clear g2_b3_0)
      (try clear k2_b3_1)
      (try clear g2_b3_1)
      (try clear k2_b4_0)
      (try clear g2_b4_0)
      (try clear k2_b4_1)
      (try clear g2_b4_1)
      (try clear k2_b5_0)
      (try clear g2_b5_0)
      (try clear k2_b5_1)
      (try clear g2_b5_1)
      (try clear q2_b3)
      (try clear x2_b3)
      (try clear y2_b3)
      (try clear q2_b4)
      (try clear x2_b4)
      (try clear y2_b4)
      (try clear q2_b5)
      (try clear x2_b5)
      (try clear y2_b5)
      rintro w3 ⟨k3_b3_0, g3_b3_0, k3_b3_1, g3_b3_1, k3_b4_0, g3_b4_0, k3_b4_1, g3_b4_1, k3_b5_0, g3_b5_0, k3_b5_1, g3_b5_1, B3, z3⟩ gg
      simp only [List.take_succ_cons, List.take_zero, List.drop_succ_cons, List.drop_zero, List.cons_append, List.nil_append, List.append_nil]
      refine obe_val (by rfl) ?_ ?_
      · clear k3_b3_0 g3_b3_0 k3_b3_1 g3_b3_1 k3_b4_0 g3_b4_0 k3_b4_1 g3_b4_1 k3_b5_0 g3_b5_0 k3_b5_1 g3_b5_1 B3 z3; intro f hf; have u5 : f 5 = (.pointer (some ⟨w.heap.size + 1 + 1, 0, none⟩)) := (by rw [← hf]; rfl); clear hf; rintro w' ⟨h0, h1, h2, h3, h4, h5, h6, h7, h8, h9, h10, h11⟩; go_simp; try exact IntWalk.i64_in _ (by omega)
      refine obe_val (by rfl) ?_ ?_
      · clear k3_b3_0 g3_b3_0 k3_b3_1 g3_b3_1 k3_b4_0 g3_b4_0 k3_b4_1 g3_b4_1 k3_b5_0 g3_b5_0 k3_b5_1 g3_b5_1 B3 z3; intro f hf; have u21 : f 21 = (.pointer (some ⟨w.heap.size + 1 + 1, 0, none⟩)) := (by rw [← hf]; rfl); clear hf; rintro w' ⟨h0, h1, h2, h3, h4, h5, h6, h7, h8, h9, h10, h11⟩; go_simp; try exact IntWalk.i64_in _ (by omega)
      refine obe_val (by rfl) ?_ ?_
      · clear k3_b3_0 g3_b3_0 k3_b3_1 g3_b3_1 k3_b4_0 g3_b4_0 k3_b4_1 g3_b4_1 k3_b5_0 g3_b5_0 k3_b5_1 g3_b5_1 B3 z3; intro f hf; have u5 : f 5 = (.pointer (some ⟨w.heap.size + 1 + 1, 0, none⟩)) := (by rw [← hf]; rfl); clear hf; rintro w' ⟨h0, h1, h2, h3, h4, h5, h6, h7, h8, h9, h10, h11⟩; go_simp; try exact IntWalk.i64_in _ (by omega)
      refine obe_val (by rfl) ?_ ?_
      · clear k3_b3_0 g3_b3_0 k3_b3_1 g3_b3_1 k3_b4_0 g3_b4_0 k3_b4_1 g3_b4_1 k3_b5_0 g3_b5_0 k3_b5_1 g3_b5_1 B3 z3; intro f hf; have u23 : f 23 = (.pointer (some ⟨w.heap.size + 1 + 1, 1, none⟩)) := (by rw [← hf]; rfl); clear hf; rintro w' ⟨h0, h1, h2, h3, h4, h5, h6, h7, h8, h9, h10, h11⟩; go_simp; try exact IntWalk.i64_in _ (by omega)
      refine obe_val (by rfl) ?_ ?_
      · clear k3_b3_0 g3_b3_0 k3_b3_1 g3_b3_1 k3_b4_0 g3_b4_0 k3_b4_1 g3_b4_1 k3_b5_0 g3_b5_0 k3_b5_1 g3_b5_1 B3 z3; intro f hf; have u22 : f 22 = (.int .i64 n) := (by rw [← hf]; rfl); clear hf; rintro w' ⟨h0, h1, h2, h3, h4, h5, h6, h7, h8, h9, h10, h11⟩; go_simp; try exact IntWalk.i64_in _ (by omega)
      refine obe_val (by rfl) ?_ ?_
      · clear k3_b3_0 g3_b3_0 k3_b3_1 g3_b3_1 k3_b4_0 g3_b4_0 k3_b4_1 g3_b4_1 k3_b5_0 g3_b5_0 k3_b5_1 g3_b5_1 B3 z3; intro f hf; have u24 : f 24 = (.int .i64 d) := (by rw [← hf]; rfl); clear hf; rintro w' ⟨h0, h1, h2, h3, h4, h5, h6, h7, h8, h9, h10, h11⟩; go_simp; try exact IntWalk.i64_in _ (by omega)
      refine obe_nil ?_
      rintro w4 ⟨h0, h1, h2, h3, h4, h5, h6, h7, h8, h9, h10, h11⟩ hb4 hF
      (try simp only [List.nil_append, List.append_nil, List.cons_append] at hF)
      simp only [puts, putD, Act.put, List.setIfInBounds_toArray, List.set_cons_zero, List.set_cons_succ]
      clear hF
      have k4_b3_0 := bcs hb4 k3_b3_0
      have g4_b3_0 := bfs hb4 k3_b3_0 g3_b3_0
      have k4_b3_1 := bcs hb4 k3_b3_1
      have g4_b3_1 := bfs hb4 k3_b3_1 g3_b3_1
      have k4_b4_0 := bcs hb4 k3_b4_0
      have g4_b4_0 := bfs hb4 k3_b4_0 g3_b4_0
      have k4_b4_1 := bcs hb4 k3_b4_1
      have g4_b4_1 := bfs hb4 k3_b4_1 g3_b4_1
      have k4_b5_0 := bcs hb4 k3_b5_0
      have g4_b5_0 := bfs hb4 k3_b5_0 g3_b5_0
      have k4_b5_1 := bcs hb4 k3_b5_1
      have g4_b5_1 := bfs hb4 k3_b5_1 g3_b5_1
      clear h0 h1 h2 h3 h4 h5 h6 h7 h8 h9 h10 h11
      have B4 := bel_step B3 hb4
      have z4 := Nat.le_trans z3 hb4.size
      clear hb4
      (try clear B3)
      (try clear z3)
      (try clear k3_b3_0)
      (try clear g3_b3_0)
      (try clear k3_b3_1)
      (try clear g3_b3_1)
      (try clear k3_b4_0)
      (try clear g3_b4_0)
      (try clear k3_b4_1)
      (try clear g3_b4_1)
      (try clear k3_b5_0)
      (try clear g3_b5_0)
      (try clear k3_b5_1)
      (try clear g3_b5_1)
      (try clear q3_b3)
      (try clear x3_b3)
      (try clear y3_b3)
      (try clear q3_b4)
      (try clear x3_b4)
      (try clear y3_b4)
      (try clear q3_b5)
      (try clear x3_b5)
      (try clear y3_b5)
      have q4_b3 : w.heap.size < w4.heap.size := qlt k4_b3_0
      have x4_b3 : ¬ w.heap.size = w4.heap.size := qne k4_b3_0
      have y4_b3 : ¬ w4.heap.size = w.heap.size := fun h => qne k4_b3_0 h.symm
      have q4_b4 : w.heap.size + 1 < w4.heap.size := qlt k4_b4_0
      have x4_b4 : ¬ w.heap.size + 1 = w4.heap.size := qne k4_b4_0
      have y4_b4 : ¬ w4.heap.size = w.heap.size + 1 := fun h => qne k4_b4_0 h.symm
      have q4_b5 : w.heap.size + 1 + 1 < w4.heap.size := qlt k4_b5_0
      have x4_b5 : ¬ w.heap.size + 1 + 1 = w4.heap.size := qne k4_b5_0
      have y4_b5 : ¬ w4.heap.size = w.heap.size + 1 + 1 := fun h => qne k4_b5_0 h.symm
      unfold wpList
      go_wp2_with (first | (go_at_call 30; (with_reducible refine (l1 _).mono ?_); rintro e w5 ⟨rfl, hb5⟩; have k5_b3_0 : w5.cell? ⟨w.heap.size, 0, none⟩ = some (.int .i64 x) := bcs hb5 (by go_simp); have g5_b3_0 : w5.frozen? ⟨w.heap.size, 0, none⟩ = false := bfs hb5 (v := .int .i64 x) (by go_simp) (by go_simp); have k5_b3_1 : w5.cell? ⟨w.heap.size, 1, none⟩ = some (.int .i64 y) := bcs hb5 (by go_simp); have g5_b3_1 : w5.frozen? ⟨w.heap.size, 1, none⟩ = false := bfs hb5 (v := .int .i64 y) (by go_simp) (by go_simp); have k5_b4_0 : w5.cell? ⟨w.heap.size + 1, 0, none⟩ = some (.int .i64 u) := bcs hb5 (by go_simp); have g5_b4_0 : w5.frozen? ⟨w.heap.size + 1, 0, none⟩ = false := bfs hb5 (v := .int .i64 u) (by go_simp) (by go_simp); have k5_b4_1 : w5.cell? ⟨w.heap.size + 1, 1, none⟩ = some (.int .i64 v) := bcs hb5 (by go_simp); have g5_b4_1 : w5.frozen? ⟨w.heap.size + 1, 1, none⟩ = false := bfs hb5 (v := .int .i64 v) (by go_simp) (by go_simp); have k5_b5_0 : w5.cell? ⟨w.heap.size + 1 + 1, 0, none⟩ = some (.int .i64 n) := bcs hb5 (by go_simp); have g5_b5_0 : w5.frozen? ⟨w.heap.size + 1 + 1, 0, none⟩ = false := bfs hb5 (v := .int .i64 n) (by go_simp) (by go_simp); have k5_b5_1 : w5.cell? ⟨w.heap.size + 1 + 1, 1, none⟩ = some (.int .i64 d) := bcs hb5 (by go_simp); have g5_b5_1 : w5.frozen? ⟨w.heap.size + 1 + 1, 1, none⟩ = false := bfs hb5 (v := .int .i64 d) (by go_simp) (by go_simp); have q5_b3 : w.heap.size < w5.heap.size := qlt k5_b3_0; have x5_b3 : ¬ w.heap.size = w5.heap.size := qne k5_b3_0; have y5_b3 : ¬ w5.heap.size = w.heap.size := fun h => qne k5_b3_0 h.symm; have q5_b4 : w.heap.size + 1 < w5.heap.size := qlt k5_b4_0; have x5_b4 : ¬ w.heap.size + 1 = w5.heap.size := qne k5_b4_0; have y5_b4 : ¬ w5.heap.size = w.heap.size + 1 := fun h => qne k5_b4_0 h.symm; have q5_b5 : w.heap.size + 1 + 1 < w5.heap.size := qlt k5_b5_0; have x5_b5 : ¬ w.heap.size + 1 + 1 = w5.heap.size := qne k5_b5_0; have y5_b5 : ¬ w5.heap.size = w.heap.size + 1 + 1 := fun h => qne k5_b5_0 h.symm; have B5 : Below w.heap.size w w5 := bel_step (by repeat (first | with_reducible exact Below.refl _ _ | with_reducible exact B4 | with_reducible apply below_drewN | with_reducible apply Below.drew | (with_reducible refine Below.alloc ?_ (by first | (simp; done) | (simp; omega) | omega) _) | (with_reducible refine Below.setCell ?_ (by first | (simp; done) | (simp; omega) | omega) _))) hb5; have z5 : w.heap.size + 1 + 1 + 1 ≤ w5.heap.size := Nat.le_trans (by first | with_reducible assumption | (simp; done) | (simp; omega)) hb5.size; clear hb5; (try clear k4_b3_0); (try clear g4_b3_0); (try clear k4_b3_1); (try clear g4_b3_1); (try clear k4_b4_0); (try clear g4_b4_0); (try clear k4_b4_1); (try clear g4_b4_1); (try clear k4_b5_0); (try clear g4_b5_0); (try clear k4_b5_1); (try clear g4_b5_1); (try clear B4); (try clear z4); (try clear q4_b3); (try clear x4_b3); (try clear y4_b3); (try clear q4_b4); (try clear x4_b4); (try clear y4_b4); (try clear q4_b5); (try clear x4_b5); (try clear y4_b5)) | (go_at_call 25; (with_reducible refine (example_any _).mono ?_); rintro e w6 ⟨rfl, hb6⟩; have k6_b3_0 : w6.cell? ⟨w.heap.size, 0, none⟩ = some (.int .i64 x) := bcs hb6 (by go_simp); have g6_b3_0 : w6.frozen? ⟨w.heap.size, 0, none⟩ = false := bfs hb6 (v := .int .i64 x) (by go_simp) (by go_simp); have k6_b3_1 : w6.cell? ⟨w.heap.size, 1, none⟩ = some (.int .i64 y) := bcs hb6 (by go_simp); have g6_b3_1 : w6.frozen? ⟨w.heap.size, 1, none⟩ = false := bfs hb6 (v := .int .i64 y) (by go_simp) (by go_simp); have k6_b4_0 : w6.cell? ⟨w.heap.size + 1, 0, none⟩ = some (.int .i64 u) := bcs hb6 (by go_simp); have g6_b4_0 : w6.frozen? ⟨w.heap.size + 1, 0, none⟩ = false := bfs hb6 (v := .int .i64 u) (by go_simp) (by go_simp); have k6_b4_1 : w6.cell? ⟨w.heap.size + 1, 1, none⟩ = some (.int .i64 v) := bcs hb6 (by go_simp); have g6_b4_1 : w6.frozen? ⟨w.heap.size + 1, 1, none⟩ = false := bfs hb6 (v := .int .i64 v) (by go_simp) (by go_simp); have k6_b5_0 : w6.cell? ⟨w.heap.size + 1 + 1, 0, none⟩ = some (.int .i64 n) := bcs hb6 (by go_simp); have g6_b5_0 : w6.frozen? ⟨w.heap.size + 1 + 1, 0, none⟩ = false := bfs hb6 (v := .int .i64 n) (by go_simp) (by go_simp); have k6_b5_1 : w6.cell? ⟨w.heap.size + 1 + 1, 1, none⟩ = some (.int .i64 d) := bcs hb6 (by go_simp); have g6_b5_1 : w6.frozen? ⟨w.heap.size + 1 + 1, 1, none⟩ = false := bfs hb6 (v := .int .i64 d) (by go_simp) (by go_simp); have k6_g9_0 : w6.cell? ⟨w5.heap.size, 0, none⟩ = some (.int .i64 x) := bcs hb6 (by go_simp); have g6_g9_0 : w6.frozen? ⟨w5.heap.size, 0, none⟩ = false := bfs hb6 (v := .int .i64 x) (by go_simp) (by go_simp); have k6_g9_1 : w6.cell? ⟨w5.heap.size, 1, none⟩ = some (.int .i64 y) := bcs hb6 (by go_simp); have g6_g9_1 : w6.frozen? ⟨w5.heap.size, 1, none⟩ = false := bfs hb6 (v := .int .i64 y) (by go_simp) (by go_simp); have q6_b3 : w.heap.size < w6.heap.size := qlt k6_b3_0; have x6_b3 : ¬ w.heap.size = w6.heap.size := qne k6_b3_0; have y6_b3 : ¬ w6.heap.size = w.heap.size := fun h => qne k6_b3_0 h.symm; have q6_b4 : w.heap.size + 1 < w6.heap.size := qlt k6_b4_0; have x6_b4 : ¬ w.heap.size + 1 = w6.heap.size := qne k6_b4_0; have y6_b4 : ¬ w6.heap.size = w.heap.size + 1 := fun h => qne k6_b4_0 h.symm; have q6_b5 : w.heap.size + 1 + 1 < w6.heap.size := qlt k6_b5_0; have x6_b5 : ¬ w.heap.size + 1 + 1 = w6.heap.size := qne k6_b5_0; have y6_b5 : ¬ w6.heap.size = w.heap.size + 1 + 1 := fun h => qne k6_b5_0 h.symm; have q6_g9 : w5.heap.size < w6.heap.size := qlt k6_g9_0; have x6_g9 : ¬ w5.heap.size = w6.heap.size := qne k6_g9_0; have y6_g9 : ¬ w6.heap.size = w5.heap.size := fun h => qne k6_g9_0 h.symm; have B6 : Below w.heap.size w w6 := bel_step (by repeat (first | with_reducible exact Below.refl _ _ | with_reducible exact B5 | with_reducible apply below_drewN | with_reducible apply Below.drew | (with_reducible refine Below.alloc ?_ (by first | (simp; done) | (simp; omega) | omega) _) | (with_reducible refine Below.setCell ?_ (by first | (simp; done) | (simp; omega) | omega) _))) hb6; have z6 : w.heap.size + 1 + 1 + 1 ≤ w6.heap.size := Nat.le_trans (by first | with_reducible assumption | (simp; done) | (simp; omega)) hb6.size; clear hb6; (try clear k5_b3_0); (try clear g5_b3_0); (try clear k5_b3_1); (try clear g5_b3_1); (try clear k5_b4_0); (try clear g5_b4_0); (try clear k5_b4_1); (try clear g5_b4_1); (try clear k5_b5_0); (try clear g5_b5_0); (try clear k5_b5_1); (try clear g5_b5_1); (try clear k5_g9_0); (try clear g5_g9_0); (try clear k5_g9_1); (try clear g5_g9_1); (try clear B5); (try clear z5); (try clear q5_b3); (try clear x5_b3); (try clear y5_b3); (try clear q5_b4); (try clear x5_b4); (try clear y5_b4); (try clear q5_b5); (try clear x5_b5); (try clear y5_b5); (try clear q5_g9); (try clear x5_g9); (try clear y5_g9)))
      go_ret
      refine ⟨rfl, ?_⟩
      repeat (first | with_reducible exact Below.refl _ _ | with_reducible exact B6 | with_reducible apply below_drewN | with_reducible apply Below.drew | (with_reducible refine Below.alloc ?_ (by first | (simp; done) | (simp; omega) | omega) _) | (with_reducible refine Below.setCell ?_ (by first | (simp; done) | (simp; omega) | omega) _))
  · have hd0 : 1 ≤ d := by omega
    have hd1 : d ≤ 1099511627776 := by omega
    clear hd
    have hk : (if d < (if n < 0 then 0 else n) then d else (if n < 0 then 0 else n)) = clampV n 0 d := by unfold clampV; split <;> split <;> (try split) <;> omega
    have ck := clampV_bd n 0 d (by omega)
    have l2 := fun w => vlerp_any u v x y (d - clampV n 0 d) d w
    have l3 := fun w => vlerp_any x y u v 0 d w
    have l4 := fun w => vlerp_any x y u v d d w
    have l5 := fun w => vlerp_any x y u v (-1) d w
    rw [hx, hy, hu, hv] at l2 l3 l4 l5
    rw [lerpV_zero x u 0 d hd0 hd1 (by omega), lerpV_zero y v 0 d hd0 hd1 (by omega)] at l3
    rw [lerpV_one x u d hd0 hd1 x0 x1 u0 u1, lerpV_one y v d hd0 hd1 y0 y1 v0 v1'] at l4
    rw [lerpV_zero x u (-1) d hd0 hd1 (by omega), lerpV_zero y v (-1) d hd0 hd1 (by omega)] at l5
    have fx := lerpV_far x u n d hd0 hd1 x0 x1 u0 u1
    have fy := lerpV_far y v n d hd0 hd1 y0 y1 v0 v1'
    have bx := lerpV_bd x u n d x0 x1 u0 u1
    have by_ := lerpV_bd y v n d y0 y1 v0 v1'
    have cx := lerpV_bd u x (d - clampV n 0 d) d u0 u1 x0 x1
    have cy := lerpV_bd v y (d - clampV n 0 d) d v0 v1' y0 y1
    obtain ⟨px, epx⟩ : ∃ p, lerpV x u n d = p := ⟨_, rfl⟩
    obtain ⟨py, epy⟩ : ∃ p, lerpV y v n d = p := ⟨_, rfl⟩
    obtain ⟨k, ek⟩ : ∃ p, clampV n 0 d = p := ⟨_, rfl⟩
    rw [ek] at hk ck l2 fx fy cx cy
    obtain ⟨qx, eqx⟩ : ∃ p, lerpV u x (d - k) d = p := ⟨_, rfl⟩
    obtain ⟨qy, eqy⟩ : ∃ p, lerpV v y (d - k) d = p := ⟨_, rfl⟩
    rw [epx] at l1 fx bx
    rw [epy] at l1 fy by_
    rw [eqx] at l2 fx cx
    rw [eqy] at l2 fy cy
    clear epx epy ek eqx eqy hx hy hu hv
    have s1 := fun w => vsub_any px py qx qy w
    rw [hold_id px (by omega) (by omega), hold_id py (by omega) (by omega), hold_id qx (by omega) (by omega), hold_id qy (by omega) (by omega)] at s1
    obtain ⟨ox, eox⟩ : ∃ p, px - qx = p := ⟨_, rfl⟩
    obtain ⟨oy, eoy⟩ : ∃ p, py - qy = p := ⟨_, rfl⟩
    rw [eox] at s1 fx
    rw [eoy] at s1 fy
    clear eox eoy
    rw [min_if2, max_if2] at bx by_
    obtain ⟨m1, em1⟩ : ∃ m, (if n < 0 then 0 else n) = m := ⟨_, rfl⟩
    rw [em1] at hk
    obtain ⟨m3, em3⟩ : ∃ m, (if u < x then u else x) = m := ⟨_, rfl⟩
    obtain ⟨m4, em4⟩ : ∃ m, (if x < u then u else x) = m := ⟨_, rfl⟩
    obtain ⟨m5, em5⟩ : ∃ m, (if v < y then v else y) = m := ⟨_, rfl⟩
    obtain ⟨m6, em6⟩ : ∃ m, (if y < v then v else y) = m := ⟨_, rfl⟩
    rw [em3, em4] at bx
    rw [em5, em6] at by_
    obtain ⟨bx0, bx1⟩ := bx
    obtain ⟨by0, by1⟩ := by_
    obtain ⟨fx0, fx1⟩ := fx
    obtain ⟨fy0, fy1⟩ := fy
    have o7 : (if ox < -ox then -ox else ox) ≤ 1 := by split <;> omega
    have o8 : (if oy < -oy then -oy else oy) ≤ 1 := by split <;> omega
    obtain ⟨m7, em7⟩ : ∃ m, (if ox < -ox then -ox else ox) = m := ⟨_, rfl⟩
    obtain ⟨m8, em8⟩ : ∃ m, (if oy < -oy then -oy else oy) = m := ⟨_, rfl⟩
    rw [em7] at o7
    rw [em8] at o8
    obtain ⟨ck0, ck1⟩ := ck
    have f1 : max n 0 = m1 := by rw [max_if2]; exact em1
    have f2 : min m1 d = k := by rw [min_if2]; exact hk
    have f3 : min x u = m3 := by rw [min_if2]; exact em3
    have f4 : max x u = m4 := by rw [max_if2]; exact em4
    have f5 : min y v = m5 := by rw [min_if2]; exact em5
    have f6 : max y v = m6 := by rw [max_if2]; exact em6
    have f7 : max ox (-ox) = m7 := by rw [max_if2]; exact em7
    have f8 : max oy (-oy) = m8 := by rw [max_if2]; exact em8
    clear cx cy
    go_enter Try.func8, Try.ntmps8
    go_wp2_with (first | (go_at_call 9; (with_reducible refine (v1 _).mono ?_); rintro e w1 ⟨rfl, hb1⟩; have k1_b3_0 : w1.cell? ⟨w.heap.size, 0, none⟩ = some (.int .i64 x) := bcs hb1 (by go_simp); have g1_b3_0 : w1.frozen? ⟨w.heap.size, 0, none⟩ = false := bfs hb1 (v := .int .i64 x) (by go_simp) (by go_simp); have k1_b3_1 : w1.cell? ⟨w.heap.size, 1, none⟩ = some (.int .i64 y) := bcs hb1 (by go_simp); have g1_b3_1 : w1.frozen? ⟨w.heap.size, 1, none⟩ = false := bfs hb1 (v := .int .i64 y) (by go_simp) (by go_simp); have k1_b4_0 : w1.cell? ⟨w.heap.size + 1, 0, none⟩ = some (.int .i64 u) := bcs hb1 (by go_simp); have g1_b4_0 : w1.frozen? ⟨w.heap.size + 1, 0, none⟩ = false := bfs hb1 (v := .int .i64 u) (by go_simp) (by go_simp); have k1_b4_1 : w1.cell? ⟨w.heap.size + 1, 1, none⟩ = some (.int .i64 v) := bcs hb1 (by go_simp); have g1_b4_1 : w1.frozen? ⟨w.heap.size + 1, 1, none⟩ = false := bfs hb1 (v := .int .i64 v) (by go_simp) (by go_simp); have k1_b5_0 : w1.cell? ⟨w.heap.size + 1 + 1, 0, none⟩ = some (.int .i64 n) := bcs hb1 (by go_simp); have g1_b5_0 : w1.frozen? ⟨w.heap.size + 1 + 1, 0, none⟩ = false := bfs hb1 (v := .int .i64 n) (by go_simp) (by go_simp); have k1_b5_1 : w1.cell? ⟨w.heap.size + 1 + 1, 1, none⟩ = some (.int .i64 d) := bcs hb1 (by go_simp); have g1_b5_1 : w1.frozen? ⟨w.heap.size + 1 + 1, 1, none⟩ = false := bfs hb1 (v := .int .i64 d) (by go_simp) (by go_simp); have q1_b3 : w.heap.size < w1.heap.size := qlt k1_b3_0; have x1_b3 : ¬ w.heap.size = w1.heap.size := qne k1_b3_0; have y1_b3 : ¬ w1.heap.size = w.heap.size := fun h => qne k1_b3_0 h.symm; have q1_b4 : w.heap.size + 1 < w1.heap.size := qlt k1_b4_0; have x1_b4 : ¬ w.heap.size + 1 = w1.heap.size := qne k1_b4_0; have y1_b4 : ¬ w1.heap.size = w.heap.size + 1 := fun h => qne k1_b4_0 h.symm; have q1_b5 : w.heap.size + 1 + 1 < w1.heap.size := qlt k1_b5_0; have x1_b5 : ¬ w.heap.size + 1 + 1 = w1.heap.size := qne k1_b5_0; have y1_b5 : ¬ w1.heap.size = w.heap.size + 1 + 1 := fun h => qne k1_b5_0 h.symm; have B1 : Below w.heap.size w w1 := bel_step (by repeat (first | with_reducible exact Below.refl _ _ | fail | with_reducible apply below_drewN | with_reducible apply Below.drew | (with_reducible refine Below.alloc ?_ (by first | (simp; done) | (simp; omega) | omega) _) | (with_reducible refine Below.setCell ?_ (by first | (simp; done) | (simp; omega) | omega) _))) hb1; have z1 : w.heap.size + 1 + 1 + 1 ≤ w1.heap.size := Nat.le_trans (by first | with_reducible assumption | (simp; done) | (simp; omega)) hb1.size; clear hb1) | (go_at_call 9; (with_reducible refine (v2 _).mono ?_); rintro e w2 ⟨rfl, hb2⟩; have k2_b3_0 : w2.cell? ⟨w.heap.size, 0, none⟩ = some (.int .i64 x) := bcs hb2 (by go_simp); have g2_b3_0 : w2.frozen? ⟨w.heap.size, 0, none⟩ = false := bfs hb2 (v := .int .i64 x) (by go_simp) (by go_simp); have k2_b3_1 : w2.cell? ⟨w.heap.size, 1, none⟩ = some (.int .i64 y) := bcs hb2 (by go_simp); have g2_b3_1 : w2.frozen? ⟨w.heap.size, 1, none⟩ = false := bfs hb2 (v := .int .i64 y) (by go_simp) (by go_simp); have k2_b4_0 : w2.cell? ⟨w.heap.size + 1, 0, none⟩ = some (.int .i64 u) := bcs hb2 (by go_simp); have g2_b4_0 : w2.frozen? ⟨w.heap.size + 1, 0, none⟩ = false := bfs hb2 (v := .int .i64 u) (by go_simp) (by go_simp); have k2_b4_1 : w2.cell? ⟨w.heap.size + 1, 1, none⟩ = some (.int .i64 v) := bcs hb2 (by go_simp); have g2_b4_1 : w2.frozen? ⟨w.heap.size + 1, 1, none⟩ = false := bfs hb2 (v := .int .i64 v) (by go_simp) (by go_simp); have k2_b5_0 : w2.cell? ⟨w.heap.size + 1 + 1, 0, none⟩ = some (.int .i64 n) := bcs hb2 (by go_simp); have g2_b5_0 : w2.frozen? ⟨w.heap.size + 1 + 1, 0, none⟩ = false := bfs hb2 (v := .int .i64 n) (by go_simp) (by go_simp); have k2_b5_1 : w2.cell? ⟨w.heap.size + 1 + 1, 1, none⟩ = some (.int .i64 d) := bcs hb2 (by go_simp); have g2_b5_1 : w2.frozen? ⟨w.heap.size + 1 + 1, 1, none⟩ = false := bfs hb2 (v := .int .i64 d) (by go_simp) (by go_simp); have q2_b3 : w.heap.size < w2.heap.size := qlt k2_b3_0; have x2_b3 : ¬ w.heap.size = w2.heap.size := qne k2_b3_0; have y2_b3 : ¬ w2.heap.size = w.heap.size := fun h => qne k2_b3_0 h.symm; have q2_b4 : w.heap.size + 1 < w2.heap.size := qlt k2_b4_0; have x2_b4 : ¬ w.heap.size + 1 = w2.heap.size := qne k2_b4_0; have y2_b4 : ¬ w2.heap.size = w.heap.size + 1 := fun h => qne k2_b4_0 h.symm; have q2_b5 : w.heap.size + 1 + 1 < w2.heap.size := qlt k2_b5_0; have x2_b5 : ¬ w.heap.size + 1 + 1 = w2.heap.size := qne k2_b5_0; have y2_b5 : ¬ w2.heap.size = w.heap.size + 1 + 1 := fun h => qne k2_b5_0 h.symm; have B2 : Below w.heap.size w w2 := bel_step (by repeat (first | with_reducible exact Below.refl _ _ | with_reducible exact B1 | with_reducible apply below_drewN | with_reducible apply Below.drew | (with_reducible refine Below.alloc ?_ (by first | (simp; done) | (simp; omega) | omega) _) | (with_reducible refine Below.setCell ?_ (by first | (simp; done) | (simp; omega) | omega) _))) hb2; have z2 : w.heap.size + 1 + 1 + 1 ≤ w2.heap.size := Nat.le_trans (by first | with_reducible assumption | (simp; done) | (simp; omega)) hb2.size; clear hb2; (try clear k1_b3_0); (try clear g1_b3_0); (try clear k1_b3_1); (try clear g1_b3_1); (try clear k1_b4_0); (try clear g1_b4_0); (try clear k1_b4_1); (try clear g1_b4_1); (try clear k1_b5_0); (try clear g1_b5_0); (try clear k1_b5_1); (try clear g1_b5_1); (try clear B1); (try clear z1); (try clear q1_b3); (try clear x1_b3); (try clear y1_b3); (try clear q1_b4); (try clear x1_b4); (try clear y1_b4); (try clear q1_b5); (try clear x1_b5); (try clear y1_b5)))
    refine wp_region_env (fun w' => w'.cell? ⟨w.heap.size, 0, none⟩ = some (.int .i64 x) ∧ w'.frozen? ⟨w.heap.size, 0, none⟩ = false ∧ w'.cell? ⟨w.heap.size, 1, none⟩ = some (.int .i64 y) ∧ w'.frozen? ⟨w.heap.size, 1, none⟩ = false ∧ w'.cell? ⟨w.heap.size + 1, 0, none⟩ = some (.int .i64 u) ∧ w'.frozen? ⟨w.heap.size + 1, 0, none⟩ = false ∧ w'.cell? ⟨w.heap.size + 1, 1, none⟩ = some (.int .i64 v) ∧ w'.frozen? ⟨w.heap.size + 1, 1, none⟩ = false ∧ w'.cell? ⟨w.heap.size + 1 + 1, 0, none⟩ = some (.int .i64 n) ∧ w'.frozen? ⟨w.heap.size + 1 + 1, 0, none⟩ = false ∧ w'.cell? ⟨w.heap.size + 1 + 1, 1, none⟩ = some (.int .i64 d) ∧ w'.frozen? ⟨w.heap.size + 1 + 1, 1, none⟩ = false) (fun W => W.cell? ⟨w.heap.size, 0, none⟩ = some (.int .i64 x) ∧ W.frozen? ⟨w.heap.size, 0, none⟩ = false ∧ W.cell? ⟨w.heap.size, 1, none⟩ = some (.int .i64 y) ∧ W.frozen? ⟨w.heap.size, 1, none⟩ = false ∧ W.cell? ⟨w.heap.size + 1, 0, none⟩ = some (.int .i64 u) ∧ W.frozen? ⟨w.heap.size + 1, 0, none⟩ = false ∧ W.cell? ⟨w.heap.size + 1, 1, none⟩ = some (.int .i64 v) ∧ W.frozen? ⟨w.heap.size + 1, 1, none⟩ = false ∧ W.cell? ⟨w.heap.size + 1 + 1, 0, none⟩ = some (.int .i64 n) ∧ W.frozen? ⟨w.heap.size + 1 + 1, 0, none⟩ = false ∧ W.cell? ⟨w.heap.size + 1 + 1, 1, none⟩ = some (.int .i64 d) ∧ W.frozen? ⟨w.heap.size + 1 + 1, 1, none⟩ = false ∧ Below w.heap.size w W ∧ w.heap.size + 1 + 1 + 1 ≤ W.heap.size) 6 139 [.val (.pointer (some ⟨w.heap.size + 1 + 1, 0, none⟩)), .val (.int .i64 n), .val (.pointer (some ⟨w.heap.size + 1 + 1, 1, none⟩)), .val (.int .i64 d), .val (.int .i64 n), .val (.int .i64 d)] (by kernel_rfl) (by kernel_rfl) rfl (by kernel_rfl) (by rintro w1 w2 ⟨h0, h1, h2, h3, h4, h5, h6, h7, h8, h9, h10, h11⟩ hb; exact ⟨bcs hb h0, bfs hb h0 h1, bcs hb h2, bfs hb h2 h3, bcs hb h4, bfs hb h4 h5, bcs hb h6, bfs hb h6 h7, bcs hb h8, bfs hb h8 h9, bcs hb h10, bfs hb h10 h11⟩) ⟨by first | with_reducible assumption | go_simp, by first | with_reducible assumption | go_simp, by first | with_reducible assumption | go_simp, by first | with_reducible assumption | go_simp, by first | with_reducible assumption | go_simp, by first | with_reducible assumption | go_simp, by first | with_reducible assumption | go_simp, by first | with_reducible assumption | go_simp, by first | with_reducible assumption | go_simp, by first | with_reducible assumption | go_simp, by first | with_reducible assumption | go_simp, by first | with_reducible assumption | go_simp, by repeat (first | with_reducible exact Below.refl _ _ | with_reducible exact B2 | with_reducible apply below_drewN | with_reducible apply Below.drew | (with_reducible refine Below.alloc ?_ (by first | (simp; done) | (simp; omega) | omega) _) | (with_reducible refine Below.setCell ?_ (by first | (simp; done) | (simp; omega) | omega) _)), by first | with_reducible assumption | (simp; done) | (simp; omega)⟩ ?_ ?_
    · rintro W ⟨k3_b3_0, g3_b3_0, k3_b3_1, g3_b3_1, k3_b4_0, g3_b4_0, k3_b4_1, g3_b4_1, k3_b5_0, g3_b5_0, k3_b5_1, g3_b5_1, B3, z3⟩; exact ⟨k3_b3_0, g3_b3_0, k3_b3_1, g3_b3_1, k3_b4_0, g3_b4_0, k3_b4_1, g3_b4_1, k3_b5_0, g3_b5_0, k3_b5_1, g3_b5_1⟩
    (try clear B2)
    (try clear z2)
    (try clear k2_b3_0)
    (try clear g2_b3_0)
    (try clear k2_b3_1)
    (try clear g2_b3_1)
    (try clear k2_b4_0)
    (try clear g2_b4_0)
    (try clear k2_b4_1)
    (try clear g2_b4_1)
    (try clear k2_b5_0)
    (try clear g2_b5_0)
    (try clear k2_b5_1)
    (try clear g2_b5_1)
    (try clear q2_b3)
    (try clear x2_b3)
    (try clear y2_b3)
    (try clear q2_b4)
    (try clear x2_b4)
    (try clear y2_b4)
    (try clear q2_b5)
    (try clear x2_b5)
    (try clear y2_b5)
    rintro w3 ⟨k3_b3_0, g3_b3_0, k3_b3_1, g3_b3_1, k3_b4_0, g3_b4_0, k3_b4_1, g3_b4_1, k3_b5_0, g3_b5_0, k3_b5_1, g3_b5_1, B3, z3⟩ gg
    simp only [List.take_succ_cons, List.take_zero, List.drop_succ_cons, List.drop_zero, List.cons_append, List.nil_append, List.append_nil]
    refine obe_val (by rfl) ?_ ?_
    · clear k3_b3_0 g3_b3_0 k3_b3_1 g3_b3_1 k3_b4_0 g3_b4_0 k3_b4_1 g3_b4_1 k3_b5_0 g3_b5_0 k3_b5_1 g3_b5_1 B3 z3; intro f hf; have u5 : f 5 = (.pointer (some ⟨w.heap.size + 1 + 1, 0, none⟩)) := (by rw [← hf]; rfl); clear hf; rintro w' ⟨h0, h1, h2, h3, h4, h5, h6, h7, h8, h9, h10, h11⟩; go_simp; try exact IntWalk.i64_in _ (by omega)
    refine obe_val (by rfl) ?_ ?_
    · clear k3_b3_0 g3_b3_0 k3_b3_1 g3_b3_1 k3_b4_0 g3_b4_0 k3_b4_1 g3_b4_1 k3_b5_0 g3_b5_0 k3_b5_1 g3_b5_1 B3 z3; intro f hf; have u21 : f 21 = (.pointer (some ⟨w.heap.size + 1 + 1, 0, none⟩)) := (by rw [← hf]; rfl); clear hf; rintro w' ⟨h0, h1, h2, h3, h4, h5, h6, h7, h8, h9, h10, h11⟩; go_simp; try exact IntWalk.i64_in _ (by omega)
    refine obe_val (by rfl) ?_ ?_
    · clear k3_b3_0 g3_b3_0 k3_b3_1 g3_b3_1 k3_b4_0 g3_b4_0 k3_b4_1 g3_b4_1 k3_b5_0 g3_b5_0 k3_b5_1 g3_b5_1 B3 z3; intro f hf; have u5 : f 5 = (.pointer (some ⟨w.heap.size + 1 + 1, 0, none⟩)) := (by rw [← hf]; rfl); clear hf; rintro w' ⟨h0, h1, h2, h3, h4, h5, h6, h7, h8, h9, h10, h11⟩; go_simp; try exact IntWalk.i64_in _ (by omega)
    refine obe_val (by rfl) ?_ ?_
    · clear k3_b3_0 g3_b3_0 k3_b3_1 g3_b3_1 k3_b4_0 g3_b4_0 k3_b4_1 g3_b4_1 k3_b5_0 g3_b5_0 k3_b5_1 g3_b5_1 B3 z3; intro f hf; have u23 : f 23 = (.pointer (some ⟨w.heap.size + 1 + 1, 1, none⟩)) := (by rw [← hf]; rfl); clear hf; rintro w' ⟨h0, h1, h2, h3, h4, h5, h6, h7, h8, h9, h10, h11⟩; go_simp; try exact IntWalk.i64_in _ (by omega)
    refine obe_val (by rfl) ?_ ?_
    · clear k3_b3_0 g3_b3_0 k3_b3_1 g3_b3_1 k3_b4_0 g3_b4_0 k3_b4_1 g3_b4_1 k3_b5_0 g3_b5_0 k3_b5_1 g3_b5_1 B3 z3; intro f hf; have u22 : f 22 = (.int .i64 n) := (by rw [← hf]; rfl); clear hf; rintro w' ⟨h0, h1, h2, h3, h4, h5, h6, h7, h8, h9, h10, h11⟩; go_simp; try exact IntWalk.i64_in _ (by omega)
    refine obe_val (by rfl) ?_ ?_
    · clear k3_b3_0 g3_b3_0 k3_b3_1 g3_b3_1 k3_b4_0 g3_b4_0 k3_b4_1 g3_b4_1 k3_b5_0 g3_b5_0 k3_b5_1 g3_b5_1 B3 z3; intro f hf; have u24 : f 24 = (.int .i64 d) := (by rw [← hf]; rfl); clear hf; rintro w' ⟨h0, h1, h2, h3, h4, h5, h6, h7, h8, h9, h10, h11⟩; go_simp; try exact IntWalk.i64_in _ (by omega)
    refine obe_nil ?_
    rintro w4 ⟨h0, h1, h2, h3, h4, h5, h6, h7, h8, h9, h10, h11⟩ hb4 hF
    (try simp only [List.nil_append, List.append_nil, List.cons_append] at hF)
    simp only [puts, putD, Act.put, List.setIfInBounds_toArray, List.set_cons_zero, List.set_cons_succ]
    clear hF
    have k4_b3_0 := bcs hb4 k3_b3_0
    have g4_b3_0 := bfs hb4 k3_b3_0 g3_b3_0
    have k4_b3_1 := bcs hb4 k3_b3_1
    have g4_b3_1 := bfs hb4 k3_b3_1 g3_b3_1
    have k4_b4_0 := bcs hb4 k3_b4_0
    have g4_b4_0 := bfs hb4 k3_b4_0 g3_b4_0
    have k4_b4_1 := bcs hb4 k3_b4_1
    have g4_b4_1 := bfs hb4 k3_b4_1 g3_b4_1
    have k4_b5_0 := bcs hb4 k3_b5_0
    have g4_b5_0 := bfs hb4 k3_b5_0 g3_b5_0
    have k4_b5_1 := bcs hb4 k3_b5_1
    have g4_b5_1 := bfs hb4 k3_b5_1 g3_b5_1
    clear h0 h1 h2 h3 h4 h5 h6 h7 h8 h9 h10 h11
    have B4 := bel_step B3 hb4
    have z4 := Nat.le_trans z3 hb4.size
    clear hb4
    (try clear B3)
    (try clear z3)
    (try clear k3_b3_0)
    (try clear g3_b3_0)
    (try clear k3_b3_1)
    (try clear g3_b3_1)
    (try clear k3_b4_0)
    (try clear g3_b4_0)
    (try clear k3_b4_1)
    (try clear g3_b4_1)
    (try clear k3_b5_0)
    (try clear g3_b5_0)
    (try clear k3_b5_1)
    (try clear g3_b5_1)
    (try clear q3_b3)
    (try clear x3_b3)
    (try clear y3_b3)
    (try clear q3_b4)
    (try clear x3_b4)
    (try clear y3_b4)
    (try clear q3_b5)
    (try clear x3_b5)
    (try clear y3_b5)
    have q4_b3 : w.heap.size < w4.heap.size := qlt k4_b3_0
    have x4_b3 : ¬ w.heap.size = w4.heap.size := qne k4_b3_0
    have y4_b3 : ¬ w4.heap.size = w.heap.size := fun h => qne k4_b3_0 h.symm
    have q4_b4 : w.heap.size + 1 < w4.heap.size := qlt k4_b4_0
    have x4_b4 : ¬ w.heap.size + 1 = w4.heap.size := qne k4_b4_0
    have y4_b4 : ¬ w4.heap.size = w.heap.size + 1 := fun h => qne k4_b4_0 h.symm
    have q4_b5 : w.heap.size + 1 + 1 < w4.heap.size := qlt k4_b5_0
    have x4_b5 : ¬ w.heap.size + 1 + 1 = w4.heap.size := qne k4_b5_0
    have y4_b5 : ¬ w4.heap.size = w.heap.size + 1 + 1 := fun h => qne k4_b5_0 h.symm
    unfold wpList
    go_wp2_with (first | (go_at_call 30; (with_reducible refine (l1 _).mono ?_); rintro e w5 ⟨rfl, hb5⟩; have k5_b3_0 : w5.cell? ⟨w.heap.size, 0, none⟩ = some (.int .i64 x) := bcs hb5 (by go_simp); have g5_b3_0 : w5.frozen? ⟨w.heap.size, 0, none⟩ = false := bfs hb5 (v := .int .i64 x) (by go_simp) (by go_simp); have k5_b3_1 : w5.cell? ⟨w.heap.size, 1, none⟩ = some (.int .i64 y) := bcs hb5 (by go_simp); have g5_b3_1 : w5.frozen? ⟨w.heap.size, 1, none⟩ = false := bfs hb5 (v := .int .i64 y) (by go_simp) (by go_simp); have k5_b4_0 : w5.cell? ⟨w.heap.size + 1, 0, none⟩ = some (.int .i64 u) := bcs hb5 (by go_simp); have g5_b4_0 : w5.frozen? ⟨w.heap.size + 1, 0, none⟩ = false := bfs hb5 (v := .int .i64 u) (by go_simp) (by go_simp); have k5_b4_1 : w5.cell? ⟨w.heap.size + 1, 1, none⟩ = some (.int .i64 v) := bcs hb5 (by go_simp); have g5_b4_1 : w5.frozen? ⟨w.heap.size + 1, 1, none⟩ = false := bfs hb5 (v := .int .i64 v) (by go_simp) (by go_simp); have k5_b5_0 : w5.cell? ⟨w.heap.size + 1 + 1, 0, none⟩ = some (.int .i64 n) := bcs hb5 (by go_simp); have g5_b5_0 : w5.frozen? ⟨w.heap.size + 1 + 1, 0, none⟩ = false := bfs hb5 (v := .int .i64 n) (by go_simp) (by go_simp); have k5_b5_1 : w5.cell? ⟨w.heap.size + 1 + 1, 1, none⟩ = some (.int .i64 d) := bcs hb5 (by go_simp); have g5_b5_1 : w5.frozen? ⟨w.heap.size + 1 + 1, 1, none⟩ = false := bfs hb5 (v := .int .i64 d) (by go_simp) (by go_simp); have q5_b3 : w.heap.size < w5.heap.size := qlt k5_b3_0; have x5_b3 : ¬ w.heap.size = w5.heap.size := qne k5_b3_0; have y5_b3 : ¬ w5.heap.size = w.heap.size := fun h => qne k5_b3_0 h.symm; have q5_b4 : w.heap.size + 1 < w5.heap.size := qlt k5_b4_0; have x5_b4 : ¬ w.heap.size + 1 = w5.heap.size := qne k5_b4_0; have y5_b4 : ¬ w5.heap.size = w.heap.size + 1 := fun h => qne k5_b4_0 h.symm; have q5_b5 : w.heap.size + 1 + 1 < w5.heap.size := qlt k5_b5_0; have x5_b5 : ¬ w.heap.size + 1 + 1 = w5.heap.size := qne k5_b5_0; have y5_b5 : ¬ w5.heap.size = w.heap.size + 1 + 1 := fun h => qne k5_b5_0 h.symm; have B5 : Below w.heap.size w w5 := bel_step (by repeat (first | with_reducible exact Below.refl _ _ | with_reducible exact B4 | with_reducible apply below_drewN | with_reducible apply Below.drew | (with_reducible refine Below.alloc ?_ (by first | (simp; done) | (simp; omega) | omega) _) | (with_reducible refine Below.setCell ?_ (by first | (simp; done) | (simp; omega) | omega) _))) hb5; have z5 : w.heap.size + 1 + 1 + 1 ≤ w5.heap.size := Nat.le_trans (by first | with_reducible assumption | (simp; done) | (simp; omega)) hb5.size; clear hb5; (try clear k4_b3_0); (try clear g4_b3_0); (try clear k4_b3_1); (try clear g4_b3_1); (try clear k4_b4_0); (try clear g4_b4_0); (try clear k4_b4_1); (try clear g4_b4_1); (try clear k4_b5_0); (try clear g4_b5_0); (try clear k4_b5_1); (try clear g4_b5_1); (try clear B4); (try clear z4); (try clear q4_b3); (try clear x4_b3); (try clear y4_b3); (try clear q4_b4); (try clear x4_b4); (try clear y4_b4); (try clear q4_b5); (try clear x4_b5); (try clear y4_b5)) | (go_at_call 30; (with_reducible refine (l2 _).mono ?_); rintro e w6 ⟨rfl, hb6⟩; have k6_b3_0 : w6.cell? ⟨w.heap.size, 0, none⟩ = some (.int .i64 x) := bcs hb6 (by go_simp); have g6_b3_0 : w6.frozen? ⟨w.heap.size, 0, none⟩ = false := bfs hb6 (v := .int .i64 x) (by go_simp) (by go_simp); have k6_b3_1 : w6.cell? ⟨w.heap.size, 1, none⟩ = some (.int .i64 y) := bcs hb6 (by go_simp); have g6_b3_1 : w6.frozen? ⟨w.heap.size, 1, none⟩ = false := bfs hb6 (v := .int .i64 y) (by go_simp) (by go_simp); have k6_b4_0 : w6.cell? ⟨w.heap.size + 1, 0, none⟩ = some (.int .i64 u) := bcs hb6 (by go_simp); have g6_b4_0 : w6.frozen? ⟨w.heap.size + 1, 0, none⟩ = false := bfs hb6 (v := .int .i64 u) (by go_simp) (by go_simp); have k6_b4_1 : w6.cell? ⟨w.heap.size + 1, 1, none⟩ = some (.int .i64 v) := bcs hb6 (by go_simp); have g6_b4_1 : w6.frozen? ⟨w.heap.size + 1, 1, none⟩ = false := bfs hb6 (v := .int .i64 v) (by go_simp) (by go_simp); have k6_b5_0 : w6.cell? ⟨w.heap.size + 1 + 1, 0, none⟩ = some (.int .i64 n) := bcs hb6 (by go_simp); have g6_b5_0 : w6.frozen? ⟨w.heap.size + 1 + 1, 0, none⟩ = false := bfs hb6 (v := .int .i64 n) (by go_simp) (by go_simp); have k6_b5_1 : w6.cell? ⟨w.heap.size + 1 + 1, 1, none⟩ = some (.int .i64 d) := bcs hb6 (by go_simp); have g6_b5_1 : w6.frozen? ⟨w.heap.size + 1 + 1, 1, none⟩ = false := bfs hb6 (v := .int .i64 d) (by go_simp) (by go_simp); have k6_g9_0 : w6.cell? ⟨w5.heap.size, 0, none⟩ = some (.int .i64 px) := bcs hb6 (by go_simp); have g6_g9_0 : w6.frozen? ⟨w5.heap.size, 0, none⟩ = false := bfs hb6 (v := .int .i64 px) (by go_simp) (by go_simp); have k6_g9_1 : w6.cell? ⟨w5.heap.size, 1, none⟩ = some (.int .i64 py) := bcs hb6 (by go_simp); have g6_g9_1 : w6.frozen? ⟨w5.heap.size, 1, none⟩ = false := bfs hb6 (v := .int .i64 py) (by go_simp) (by go_simp); have q6_b3 : w.heap.size < w6.heap.size := qlt k6_b3_0; have x6_b3 : ¬ w.heap.size = w6.heap.size := qne k6_b3_0; have y6_b3 : ¬ w6.heap.size = w.heap.size := fun h => qne k6_b3_0 h.symm; have q6_b4 : w.heap.size + 1 < w6.heap.size := qlt k6_b4_0; have x6_b4 : ¬ w.heap.size + 1 = w6.heap.size := qne k6_b4_0; have y6_b4 : ¬ w6.heap.size = w.heap.size + 1 := fun h => qne k6_b4_0 h.symm; have q6_b5 : w.heap.size + 1 + 1 < w6.heap.size := qlt k6_b5_0; have x6_b5 : ¬ w.heap.size + 1 + 1 = w6.heap.size := qne k6_b5_0; have y6_b5 : ¬ w6.heap.size = w.heap.size + 1 + 1 := fun h => qne k6_b5_0 h.symm; have q6_g9 : w5.heap.size < w6.heap.size := qlt k6_g9_0; have x6_g9 : ¬ w5.heap.size = w6.heap.size := qne k6_g9_0; have y6_g9 : ¬ w6.heap.size = w5.heap.size := fun h => qne k6_g9_0 h.symm; have B6 : Below w.heap.size w w6 := bel_step (by repeat (first | with_reducible exact Below.refl _ _ | with_reducible exact B5 | with_reducible apply below_drewN | with_reducible apply Below.drew | (with_reducible refine Below.alloc ?_ (by first | (simp; done) | (simp; omega) | omega) _) | (with_reducible refine Below.setCell ?_ (by first | (simp; done) | (simp; omega) | omega) _))) hb6; have z6 : w.heap.size + 1 + 1 + 1 ≤ w6.heap.size := Nat.le_trans (by first | with_reducible assumption | (simp; done) | (simp; omega)) hb6.size; clear hb6; (try clear k5_b3_0); (try clear g5_b3_0); (try clear k5_b3_1); (try clear g5_b3_1); (try clear k5_b4_0); (try clear g5_b4_0); (try clear k5_b4_1); (try clear g5_b4_1); (try clear k5_b5_0); (try clear g5_b5_0); (try clear k5_b5_1); (try clear g5_b5_1); (try clear k5_g9_0); (try clear g5_g9_0); (try clear k5_g9_1); (try clear g5_g9_1); (try clear B5); (try clear z5); (try clear q5_b3); (try clear x5_b3); (try clear y5_b3); (try clear q5_b4); (try clear x5_b4); (try clear y5_b4); (try clear q5_b5); (try clear x5_b5); (try clear y5_b5); (try clear q5_g9); (try clear x5_g9); (try clear y5_g9)) | (go_at_call 13; (with_reducible refine (s1 _).mono ?_); rintro e w7 ⟨rfl, hb7⟩; have k7_b3_0 : w7.cell? ⟨w.heap.size, 0, none⟩ = some (.int .i64 x) := bcs hb7 (by go_simp); have g7_b3_0 : w7.frozen? ⟨w.heap.size, 0, none⟩ = false := bfs hb7 (v := .int .i64 x) (by go_simp) (by go_simp); have k7_b3_1 : w7.cell? ⟨w.heap.size, 1, none⟩ = some (.int .i64 y) := bcs hb7 (by go_simp); have g7_b3_1 : w7.frozen? ⟨w.heap.size, 1, none⟩ = false := bfs hb7 (v := .int .i64 y) (by go_simp) (by go_simp); have k7_b4_0 : w7.cell? ⟨w.heap.size + 1, 0, none⟩ = some (.int .i64 u) := bcs hb7 (by go_simp); have g7_b4_0 : w7.frozen? ⟨w.heap.size + 1, 0, none⟩ = false := bfs hb7 (v := .int .i64 u) (by go_simp) (by go_simp); have k7_b4_1 : w7.cell? ⟨w.heap.size + 1, 1, none⟩ = some (.int .i64 v) := bcs hb7 (by go_simp); have g7_b4_1 : w7.frozen? ⟨w.heap.size + 1, 1, none⟩ = false := bfs hb7 (v := .int .i64 v) (by go_simp) (by go_simp); have k7_b5_0 : w7.cell? ⟨w.heap.size + 1 + 1, 0, none⟩ = some (.int .i64 n) := bcs hb7 (by go_simp); have g7_b5_0 : w7.frozen? ⟨w.heap.size + 1 + 1, 0, none⟩ = false := bfs hb7 (v := .int .i64 n) (by go_simp) (by go_simp); have k7_b5_1 : w7.cell? ⟨w.heap.size + 1 + 1, 1, none⟩ = some (.int .i64 d) := bcs hb7 (by go_simp); have g7_b5_1 : w7.frozen? ⟨w.heap.size + 1 + 1, 1, none⟩ = false := bfs hb7 (v := .int .i64 d) (by go_simp) (by go_simp); have k7_g9_0 : w7.cell? ⟨w5.heap.size, 0, none⟩ = some (.int .i64 px) := bcs hb7 (by go_simp); have g7_g9_0 : w7.frozen? ⟨w5.heap.size, 0, none⟩ = false := bfs hb7 (v := .int .i64 px) (by go_simp) (by go_simp); have k7_g9_1 : w7.cell? ⟨w5.heap.size, 1, none⟩ = some (.int .i64 py) := bcs hb7 (by go_simp); have g7_g9_1 : w7.frozen? ⟨w5.heap.size, 1, none⟩ = false := bfs hb7 (v := .int .i64 py) (by go_simp) (by go_simp); have k7_g10_0 : w7.cell? ⟨w6.heap.size, 0, none⟩ = some (.int .i64 qx) := bcs hb7 (by go_simp); have g7_g10_0 : w7.frozen? ⟨w6.heap.size, 0, none⟩ = false := bfs hb7 (v := .int .i64 qx) (by go_simp) (by go_simp); have k7_g10_1 : w7.cell? ⟨w6.heap.size, 1, none⟩ = some (.int .i64 qy) := bcs hb7 (by go_simp); have g7_g10_1 : w7.frozen? ⟨w6.heap.size, 1, none⟩ = false := bfs hb7 (v := .int .i64 qy) (by go_simp) (by go_simp); have q7_b3 : w.heap.size < w7.heap.size := qlt k7_b3_0; have x7_b3 : ¬ w.heap.size = w7.heap.size := qne k7_b3_0; have y7_b3 : ¬ w7.heap.size = w.heap.size := fun h => qne k7_b3_0 h.symm; have q7_b4 : w.heap.size + 1 < w7.heap.size := qlt k7_b4_0; have x7_b4 : ¬ w.heap.size + 1 = w7.heap.size := qne k7_b4_0; have y7_b4 : ¬ w7.heap.size = w.heap.size + 1 := fun h => qne k7_b4_0 h.symm; have q7_b5 : w.heap.size + 1 + 1 < w7.heap.size := qlt k7_b5_0; have x7_b5 : ¬ w.heap.size + 1 + 1 = w7.heap.size := qne k7_b5_0; have y7_b5 : ¬ w7.heap.size = w.heap.size + 1 + 1 := fun h => qne k7_b5_0 h.symm; have q7_g9 : w5.heap.size < w7.heap.size := qlt k7_g9_0; have x7_g9 : ¬ w5.heap.size = w7.heap.size := qne k7_g9_0; have y7_g9 : ¬ w7.heap.size = w5.heap.size := fun h => qne k7_g9_0 h.symm; have q7_g10 : w6.heap.size < w7.heap.size := qlt k7_g10_0; have x7_g10 : ¬ w6.heap.size = w7.heap.size := qne k7_g10_0; have y7_g10 : ¬ w7.heap.size = w6.heap.size := fun h => qne k7_g10_0 h.symm; have B7 : Below w.heap.size w w7 := bel_step (by repeat (first | with_reducible exact Below.refl _ _ | with_reducible exact B6 | with_reducible apply below_drewN | with_reducible apply Below.drew | (with_reducible refine Below.alloc ?_ (by first | (simp; done) | (simp; omega) | omega) _) | (with_reducible refine Below.setCell ?_ (by first | (simp; done) | (simp; omega) | omega) _))) hb7; have z7 : w.heap.size + 1 + 1 + 1 ≤ w7.heap.size := Nat.le_trans (by first | with_reducible assumption | (simp; done) | (simp; omega)) hb7.size; clear hb7; (try clear k6_b3_0); (try clear g6_b3_0); (try clear k6_b3_1); (try clear g6_b3_1); (try clear k6_b4_0); (try clear g6_b4_0); (try clear k6_b4_1); (try clear g6_b4_1); (try clear k6_b5_0); (try clear g6_b5_0); (try clear k6_b5_1); (try clear g6_b5_1); (try clear k6_g9_0); (try clear g6_g9_0); (try clear k6_g9_1); (try clear g6_g9_1); (try clear k6_g10_0); (try clear g6_g10_0); (try clear k6_g10_1); (try clear g6_g10_1); (try clear B6); (try clear z6); (try clear q6_b3); (try clear x6_b3); (try clear y6_b3); (try clear q6_b4); (try clear x6_b4); (try clear y6_b4); (try clear q6_b5); (try clear x6_b5); (try clear y6_b5); (try clear q6_g9); (try clear x6_g9); (try clear y6_g9); (try clear q6_g10); (try clear x6_g10); (try clear y6_g10)))
    refine wp_region_env (fun w' => w'.cell? ⟨w.heap.size, 0, none⟩ = some (.int .i64 x) ∧ w'.frozen? ⟨w.heap.size, 0, none⟩ = false ∧ w'.cell? ⟨w.heap.size, 1, none⟩ = some (.int .i64 y) ∧ w'.frozen? ⟨w.heap.size, 1, none⟩ = false ∧ w'.cell? ⟨w.heap.size + 1, 0, none⟩ = some (.int .i64 u) ∧ w'.frozen? ⟨w.heap.size + 1, 0, none⟩ = false ∧ w'.cell? ⟨w.heap.size + 1, 1, none⟩ = some (.int .i64 v) ∧ w'.frozen? ⟨w.heap.size + 1, 1, none⟩ = false ∧ w'.cell? ⟨w.heap.size + 1 + 1, 0, none⟩ = some (.int .i64 n) ∧ w'.frozen? ⟨w.heap.size + 1 + 1, 0, none⟩ = false ∧ w'.cell? ⟨w.heap.size + 1 + 1, 1, none⟩ = some (.int .i64 d) ∧ w'.frozen? ⟨w.heap.size + 1 + 1, 1, none⟩ = false ∧ w'.cell? ⟨w5.heap.size, 0, none⟩ = some (.int .i64 px) ∧ w'.frozen? ⟨w5.heap.size, 0, none⟩ = false ∧ w'.cell? ⟨w5.heap.size, 1, none⟩ = some (.int .i64 py) ∧ w'.frozen? ⟨w5.heap.size, 1, none⟩ = false ∧ w'.cell? ⟨w6.heap.size, 0, none⟩ = some (.int .i64 qx) ∧ w'.frozen? ⟨w6.heap.size, 0, none⟩ = false ∧ w'.cell? ⟨w6.heap.size, 1, none⟩ = some (.int .i64 qy) ∧ w'.frozen? ⟨w6.heap.size, 1, none⟩ = false ∧ w'.cell? ⟨w7.heap.size, 0, none⟩ = some (.int .i64 ox) ∧ w'.frozen? ⟨w7.heap.size, 0, none⟩ = false ∧ w'.cell? ⟨w7.heap.size, 1, none⟩ = some (.int .i64 oy) ∧ w'.frozen? ⟨w7.heap.size, 1, none⟩ = false) (fun W => W.cell? ⟨w.heap.size, 0, none⟩ = some (.int .i64 x) ∧ W.frozen? ⟨w.heap.size, 0, none⟩ = false ∧ W.cell? ⟨w.heap.size, 1, none⟩ = some (.int .i64 y) ∧ W.frozen? ⟨w.heap.size, 1, none⟩ = false ∧ W.cell? ⟨w.heap.size + 1, 0, none⟩ = some (.int .i64 u) ∧ W.frozen? ⟨w.heap.size + 1, 0, none⟩ = false ∧ W.cell? ⟨w.heap.size + 1, 1, none⟩ = some (.int .i64 v) ∧ W.frozen? ⟨w.heap.size + 1, 1, none⟩ = false ∧ W.cell? ⟨w.heap.size + 1 + 1, 0, none⟩ = some (.int .i64 n) ∧ W.frozen? ⟨w.heap.size + 1 + 1, 0, none⟩ = false ∧ W.cell? ⟨w.heap.size + 1 + 1, 1, none⟩ = some (.int .i64 d) ∧ W.frozen? ⟨w.heap.size + 1 + 1, 1, none⟩ = false ∧ W.cell? ⟨w5.heap.size, 0, none⟩ = some (.int .i64 px) ∧ W.frozen? ⟨w5.heap.size, 0, none⟩ = false ∧ W.cell? ⟨w5.heap.size, 1, none⟩ = some (.int .i64 py) ∧ W.frozen? ⟨w5.heap.size, 1, none⟩ = false ∧ W.cell? ⟨w6.heap.size, 0, none⟩ = some (.int .i64 qx) ∧ W.frozen? ⟨w6.heap.size, 0, none⟩ = false ∧ W.cell? ⟨w6.heap.size, 1, none⟩ = some (.int .i64 qy) ∧ W.frozen? ⟨w6.heap.size, 1, none⟩ = false ∧ W.cell? ⟨w7.heap.size, 0, none⟩ = some (.int .i64 ox) ∧ W.frozen? ⟨w7.heap.size, 0, none⟩ = false ∧ W.cell? ⟨w7.heap.size, 1, none⟩ = some (.int .i64 oy) ∧ W.frozen? ⟨w7.heap.size, 1, none⟩ = false ∧ Below w.heap.size w W ∧ w.heap.size + 1 + 1 + 1 ≤ W.heap.size) 85 139 [.val (.agg #[.int .i64 x, .int .i64 y]), .val (.agg #[.int .i64 u, .int .i64 v]), .val (.int .i64 d), .call 30 #[.agg #[.int .i64 x, .int .i64 y], .agg #[.int .i64 u, .int .i64 v], .int .i64 0, .int .i64 d] (.agg #[.int .i64 x, .int .i64 y]), .val (.agg #[.int .i64 x, .int .i64 y]), .val (.bool true), .val (.bool true), .val (.agg #[.int .i64 x, .int .i64 y]), .val (.agg #[.int .i64 u, .int .i64 v]), .val (.int .i64 d), .val (.int .i64 d), .call 30 #[.agg #[.int .i64 x, .int .i64 y], .agg #[.int .i64 u, .int .i64 v], .int .i64 d, .int .i64 d] (.agg #[.int .i64 u, .int .i64 v]), .val (.agg #[.int .i64 u, .int .i64 v]), .val (.bool true), .val (.bool true), .val (.bool true), .val (.agg #[.int .i64 x, .int .i64 y]), .val (.agg #[.int .i64 u, .int .i64 v]), .val (.int .i64 d), .call 30 #[.agg #[.int .i64 x, .int .i64 y], .agg #[.int .i64 u, .int .i64 v], .int .i64 (-1), .int .i64 d] (.agg #[.int .i64 x, .int .i64 y]), .val (.agg #[.int .i64 x, .int .i64 y]), .val (.bool true), .val (.bool true), .val (.bool true), .val (.pointer (some ⟨w5.heap.size, 0, none⟩)), .val (.int .i64 px), .val (.pointer (some ⟨w.heap.size, 0, none⟩)), .val (.int .i64 x), .val (.pointer (some ⟨w.heap.size + 1, 0, none⟩)), .val (.int .i64 u), .val (.int .i64 m3), .val (.bool true), .val (.bool true), .val (.bool true), .val (.pointer (some ⟨w5.heap.size, 0, none⟩)), .val (.int .i64 px), .val (.pointer (some ⟨w.heap.size, 0, none⟩)), .val (.int .i64 x), .val (.pointer (some ⟨w.heap.size + 1, 0, none⟩)), .val (.int .i64 u), .val (.int .i64 m4), .val (.bool true), .val (.bool true), .val (.bool true), .val (.pointer (some ⟨w5.heap.size, 1, none⟩)), .val (.int .i64 py), .val (.pointer (some ⟨w.heap.size, 1, none⟩)), .val (.int .i64 y), .val (.pointer (some ⟨w.heap.size + 1, 1, none⟩)), .val (.int .i64 v), .val (.int .i64 m5), .val (.bool true), .val (.bool true), .val (.bool true), .val (.pointer (some ⟨w5.heap.size, 1, none⟩)), .val (.int .i64 py), .val (.pointer (some ⟨w.heap.size, 1, none⟩)), .val (.int .i64 y), .val (.pointer (some ⟨w.heap.size + 1, 1, none⟩)), .val (.int .i64 v), .val (.int .i64 m6), .val (.bool true), .val (.bool true), .val (.bool true), .val (.pointer (some ⟨w7.heap.size, 0, none⟩)), .val (.int .i64 ox), .val (.pointer (some ⟨w7.heap.size, 0, none⟩)), .val (.int .i64 ox), .val (.int .i64 (-ox)), .val (.int .i64 m7), .val (.bool true), .val (.bool true), .val (.bool true), .val (.pointer (some ⟨w7.heap.size, 1, none⟩)), .val (.int .i64 oy), .val (.pointer (some ⟨w7.heap.size, 1, none⟩)), .val (.int .i64 oy), .val (.int .i64 (-oy)), .val (.int .i64 m8), .val (.bool true), .val (.bool true), .val (.bool true), .call 25 #[] (.bool true), .val (.bool true), .val (.bool true)] (by kernel_rfl) (by kernel_rfl) rfl (by kernel_rfl) (by rintro w1 w2 ⟨h0, h1, h2, h3, h4, h5, h6, h7, h8, h9, h10, h11, h12, h13, h14, h15, h16, h17, h18, h19, h20, h21, h22, h23⟩ hb; exact ⟨bcs hb h0, bfs hb h0 h1, bcs hb h2, bfs hb h2 h3, bcs hb h4, bfs hb h4 h5, bcs hb h6, bfs hb h6 h7, bcs hb h8, bfs hb h8 h9, bcs hb h10, bfs hb h10 h11, bcs hb h12, bfs hb h12 h13, bcs hb h14, bfs hb h14 h15, bcs hb h16, bfs hb h16 h17, bcs hb h18, bfs hb h18 h19, bcs hb h20, bfs hb h20 h21, bcs hb h22, bfs hb h22 h23⟩) ⟨by first | with_reducible assumption | go_simp, by first | with_reducible assumption | go_simp, by first | with_reducible assumption | go_simp, by first | with_reducible assumption | go_simp, by first | with_reducible assumption | go_simp, by first | with_reducible assumption | go_simp, by first | with_reducible assumption | go_simp, by first | with_reducible assumption | go_simp, by first | with_reducible assumption | go_simp, by first | with_reducible assumption | go_simp, by first | with_reducible assumption | go_simp, by first | with_reducible assumption | go_simp, by first | with_reducible assumption | go_simp, by first | with_reducible assumption | go_simp, by first | with_reducible assumption | go_simp, by first | with_reducible assumption | go_simp, by first | with_reducible assumption | go_simp, by first | with_reducible assumption | go_simp, by first | with_reducible assumption | go_simp, by first | with_reducible assumption | go_simp, by first | with_reducible assumption | go_simp, by first | with_reducible assumption | go_simp, by first | with_reducible assumption | go_simp, by first | with_reducible assumption | go_simp, by repeat (first | with_reducible exact Below.refl _ _ | with_reducible exact B7 | with_reducible apply below_drewN | with_reducible apply Below.drew | (with_reducible refine Below.alloc ?_ (by first | (simp; done) | (simp; omega) | omega) _) | (with_reducible refine Below.setCell ?_ (by first | (simp; done) | (simp; omega) | omega) _)), by first | with_reducible assumption | (simp; done) | (simp; omega)⟩ ?_ ?_
    · rintro W ⟨k8_b3_0, g8_b3_0, k8_b3_1, g8_b3_1, k8_b4_0, g8_b4_0, k8_b4_1, g8_b4_1, k8_b5_0, g8_b5_0, k8_b5_1, g8_b5_1, k8_g9_0, g8_g9_0, k8_g9_1, g8_g9_1, k8_g10_0, g8_g10_0, k8_g10_1, g8_g10_1, k8_g11_0, g8_g11_0, k8_g11_1, g8_g11_1, B8, z8⟩; exact ⟨k8_b3_0, g8_b3_0, k8_b3_1, g8_b3_1, k8_b4_0, g8_b4_0, k8_b4_1, g8_b4_1, k8_b5_0, g8_b5_0, k8_b5_1, g8_b5_1, k8_g9_0, g8_g9_0, k8_g9_1, g8_g9_1, k8_g10_0, g8_g10_0, k8_g10_1, g8_g10_1, k8_g11_0, g8_g11_0, k8_g11_1, g8_g11_1⟩
    (try clear B7)
    (try clear z7)
    (try clear k7_b3_0)
    (try clear g7_b3_0)
    (try clear k7_b3_1)
    (try clear g7_b3_1)
    (try clear k7_b4_0)
    (try clear g7_b4_0)
    (try clear k7_b4_1)
    (try clear g7_b4_1)
    (try clear k7_b5_0)
    (try clear g7_b5_0)
    (try clear k7_b5_1)
    (try clear g7_b5_1)
    (try clear k7_g9_0)
    (try clear g7_g9_0)
    (try clear k7_g9_1)
    (try clear g7_g9_1)
    (try clear k7_g10_0)
    (try clear g7_g10_0)
    (try clear k7_g10_1)
    (try clear g7_g10_1)
    (try clear k7_g11_0)
    (try clear g7_g11_0)
    (try clear k7_g11_1)
    (try clear g7_g11_1)
    (try clear q7_b3)
    (try clear x7_b3)
    (try clear y7_b3)
    (try clear q7_b4)
    (try clear x7_b4)
    (try clear y7_b4)
    (try clear q7_b5)
    (try clear x7_b5)
    (try clear y7_b5)
    (try clear q7_g9)
    (try clear x7_g9)
    (try clear y7_g9)
    (try clear q7_g10)
    (try clear x7_g10)
    (try clear y7_g10)
    (try clear q7_g11)
    (try clear x7_g11)
    (try clear y7_g11)
    rintro w8 ⟨k8_b3_0, g8_b3_0, k8_b3_1, g8_b3_1, k8_b4_0, g8_b4_0, k8_b4_1, g8_b4_1, k8_b5_0, g8_b5_0, k8_b5_1, g8_b5_1, k8_g9_0, g8_g9_0, k8_g9_1, g8_g9_1, k8_g10_0, g8_g10_0, k8_g10_1, g8_g10_1, k8_g11_0, g8_g11_0, k8_g11_1, g8_g11_1, B8, z8⟩ gg
    simp only [List.take_succ_cons, List.take_zero, List.drop_succ_cons, List.drop_zero, List.cons_append, List.nil_append, List.append_nil]
    refine obe_val (by rfl) ?_ ?_
    · clear k8_b3_0 g8_b3_0 k8_b3_1 g8_b3_1 k8_b4_0 g8_b4_0 k8_b4_1 g8_b4_1 k8_b5_0 g8_b5_0 k8_b5_1 g8_b5_1 k8_g9_0 g8_g9_0 k8_g9_1 g8_g9_1 k8_g10_0 g8_g10_0 k8_g10_1 g8_g10_1 k8_g11_0 g8_g11_0 k8_g11_1 g8_g11_1 B8 z8; intro f hf; have u3 : f 3 = (.pointer (some ⟨w.heap.size, 0, none⟩)) := (by rw [← hf]; rfl); clear hf; rintro w' ⟨h0, h1, h2, h3, h4, h5, h6, h7, h8, h9, h10, h11, h12, h13, h14, h15, h16, h17, h18, h19, h20, h21, h22, h23⟩; go_simp; try exact IntWalk.i64_in _ (by omega)
    refine obe_val (by rfl) ?_ ?_
    · clear k8_b3_0 g8_b3_0 k8_b3_1 g8_b3_1 k8_b4_0 g8_b4_0 k8_b4_1 g8_b4_1 k8_b5_0 g8_b5_0 k8_b5_1 g8_b5_1 k8_g9_0 g8_g9_0 k8_g9_1 g8_g9_1 k8_g10_0 g8_g10_0 k8_g10_1 g8_g10_1 k8_g11_0 g8_g11_0 k8_g11_1 g8_g11_1 B8 z8; intro f hf; have u4 : f 4 = (.pointer (some ⟨w.heap.size + 1, 0, none⟩)) := (by rw [← hf]; rfl); clear hf; rintro w' ⟨h0, h1, h2, h3, h4, h5, h6, h7, h8, h9, h10, h11, h12, h13, h14, h15, h16, h17, h18, h19, h20, h21, h22, h23⟩; go_simp; try exact IntWalk.i64_in _ (by omega)
    refine obe_val (by rfl) ?_ ?_
    · clear k8_b3_0 g8_b3_0 k8_b3_1 g8_b3_1 k8_b4_0 g8_b4_0 k8_b4_1 g8_b4_1 k8_b5_0 g8_b5_0 k8_b5_1 g8_b5_1 k8_g9_0 g8_g9_0 k8_g9_1 g8_g9_1 k8_g10_0 g8_g10_0 k8_g10_1 g8_g10_1 k8_g11_0 g8_g11_0 k8_g11_1 g8_g11_1 B8 z8; intro f hf; have u8 : f 8 = (.int .i64 d) := (by rw [← hf]; rfl); clear hf; rintro w' ⟨h0, h1, h2, h3, h4, h5, h6, h7, h8, h9, h10, h11, h12, h13, h14, h15, h16, h17, h18, h19, h20, h21, h22, h23⟩; go_simp; try exact IntWalk.i64_in _ (by omega)
    refine obe_call (by rfl) ?_ ?_ ?_
    · clear k8_b3_0 g8_b3_0 k8_b3_1 g8_b3_1 k8_b4_0 g8_b4_0 k8_b4_1 g8_b4_1 k8_b5_0 g8_b5_0 k8_b5_1 g8_b5_1 k8_g9_0 g8_g9_0 k8_g9_1 g8_g9_1 k8_g10_0 g8_g10_0 k8_g10_1 g8_g10_1 k8_g11_0 g8_g11_0 k8_g11_1 g8_g11_1 B8 z8; intro f hf; have u55 : f 55 = (.agg #[.int .i64 x, .int .i64 y]) := (by rw [← hf]; rfl); have u56 : f 56 = (.agg #[.int .i64 u, .int .i64 v]) := (by rw [← hf]; rfl); have u57 : f 57 = (.int .i64 d) := (by rw [← hf]; rfl); clear hf; intro w' _; simp only [execOp, resolve, invoke, rhoF_tmp, rhoF_func, rhoF_const, u55, u56, u57, List.map_toArray, List.map_cons, List.map_nil]; go_simp
    · clear k8_b3_0 g8_b3_0 k8_b3_1 g8_b3_1 k8_b4_0 g8_b4_0 k8_b4_1 g8_b4_1 k8_b5_0 g8_b5_0 k8_b5_1 g8_b5_1 k8_g9_0 g8_g9_0 k8_g9_1 g8_g9_1 k8_g10_0 g8_g10_0 k8_g10_1 g8_g10_1 k8_g11_0 g8_g11_0 k8_g11_1 g8_g11_1 B8 z8; rintro w' ⟨h0, h1, h2, h3, h4, h5, h6, h7, h8, h9, h10, h11, h12, h13, h14, h15, h16, h17, h18, h19, h20, h21, h22, h23⟩; exact l3 _
    refine obe_val (by rfl) ?_ ?_
    · clear k8_b3_0 g8_b3_0 k8_b3_1 g8_b3_1 k8_b4_0 g8_b4_0 k8_b4_1 g8_b4_1 k8_b5_0 g8_b5_0 k8_b5_1 g8_b5_1 k8_g9_0 g8_g9_0 k8_g9_1 g8_g9_1 k8_g10_0 g8_g10_0 k8_g10_1 g8_g10_1 k8_g11_0 g8_g11_0 k8_g11_1 g8_g11_1 B8 z8; intro f hf; have u3 : f 3 = (.pointer (some ⟨w.heap.size, 0, none⟩)) := (by rw [← hf]; rfl); clear hf; rintro w' ⟨h0, h1, h2, h3, h4, h5, h6, h7, h8, h9, h10, h11, h12, h13, h14, h15, h16, h17, h18, h19, h20, h21, h22, h23⟩; go_simp; try exact IntWalk.i64_in _ (by omega)
    refine obe_val (by rfl) ?_ ?_
    · clear k8_b3_0 g8_b3_0 k8_b3_1 g8_b3_1 k8_b4_0 g8_b4_0 k8_b4_1 g8_b4_1 k8_b5_0 g8_b5_0 k8_b5_1 g8_b5_1 k8_g9_0 g8_g9_0 k8_g9_1 g8_g9_1 k8_g10_0 g8_g10_0 k8_g10_1 g8_g10_1 k8_g11_0 g8_g11_0 k8_g11_1 g8_g11_1 B8 z8; intro f hf; have u58 : f 58 = (.agg #[.int .i64 x, .int .i64 y]) := (by rw [← hf]; rfl); have u59 : f 59 = (.agg #[.int .i64 x, .int .i64 y]) := (by rw [← hf]; rfl); clear hf; rintro w' ⟨h0, h1, h2, h3, h4, h5, h6, h7, h8, h9, h10, h11, h12, h13, h14, h15, h16, h17, h18, h19, h20, h21, h22, h23⟩; go_simp; try exact IntWalk.i64_in _ (by omega)
    refine obe_val (by rfl) ?_ ?_
    · clear k8_b3_0 g8_b3_0 k8_b3_1 g8_b3_1 k8_b4_0 g8_b4_0 k8_b4_1 g8_b4_1 k8_b5_0 g8_b5_0 k8_b5_1 g8_b5_1 k8_g9_0 g8_g9_0 k8_g9_1 g8_g9_1 k8_g10_0 g8_g10_0 k8_g10_1 g8_g10_1 k8_g11_0 g8_g11_0 k8_g11_1 g8_g11_1 B8 z8; intro f hf; have u60 : f 60 = (.bool true) := (by rw [← hf]; rfl); clear hf; rintro w' ⟨h0, h1, h2, h3, h4, h5, h6, h7, h8, h9, h10, h11, h12, h13, h14, h15, h16, h17, h18, h19, h20, h21, h22, h23⟩; go_simp; try exact IntWalk.i64_in _ (by omega)
    refine obe_val (by rfl) ?_ ?_
    · clear k8_b3_0 g8_b3_0 k8_b3_1 g8_b3_1 k8_b4_0 g8_b4_0 k8_b4_1 g8_b4_1 k8_b5_0 g8_b5_0 k8_b5_1 g8_b5_1 k8_g9_0 g8_g9_0 k8_g9_1 g8_g9_1 k8_g10_0 g8_g10_0 k8_g10_1 g8_g10_1 k8_g11_0 g8_g11_0 k8_g11_1 g8_g11_1 B8 z8; intro f hf; have u3 : f 3 = (.pointer (some ⟨w.heap.size, 0, none⟩)) := (by rw [← hf]; rfl); clear hf; rintro w' ⟨h0, h1, h2, h3, h4, h5, h6, h7, h8, h9, h10, h11, h12, h13, h14, h15, h16, h17, h18, h19, h20, h21, h22, h23⟩; go_simp; try exact IntWalk.i64_in _ (by omega)
    refine obe_val (by rfl) ?_ ?_
    · clear k8_b3_0 g8_b3_0 k8_b3_1 g8_b3_1 k8_b4_0 g8_b4_0 k8_b4_1 g8_b4_1 k8_b5_0 g8_b5_0 k8_b5_1 g8_b5_1 k8_g9_0 g8_g9_0 k8_g9_1 g8_g9_1 k8_g10_0 g8_g10_0 k8_g10_1 g8_g10_1 k8_g11_0 g8_g11_0 k8_g11_1 g8_g11_1 B8 z8; intro f hf; have u4 : f 4 = (.pointer (some ⟨w.heap.size + 1, 0, none⟩)) := (by rw [← hf]; rfl); clear hf; rintro w' ⟨h0, h1, h2, h3, h4, h5, h6, h7, h8, h9, h10, h11, h12, h13, h14, h15, h16, h17, h18, h19, h20, h21, h22, h23⟩; go_simp; try exact IntWalk.i64_in _ (by omega)
    refine obe_val (by rfl) ?_ ?_
    · clear k8_b3_0 g8_b3_0 k8_b3_1 g8_b3_1 k8_b4_0 g8_b4_0 k8_b4_1 g8_b4_1 k8_b5_0 g8_b5_0 k8_b5_1 g8_b5_1 k8_g9_0 g8_g9_0 k8_g9_1 g8_g9_1 k8_g10_0 g8_g10_0 k8_g10_1 g8_g10_1 k8_g11_0 g8_g11_0 k8_g11_1 g8_g11_1 B8 z8; intro f hf; have u8 : f 8 = (.int .i64 d) := (by rw [← hf]; rfl); clear hf; rintro w' ⟨h0, h1, h2, h3, h4, h5, h6, h7, h8, h9, h10, h11, h12, h13, h14, h15, h16, h17, h18, h19, h20, h21, h22, h23⟩; go_simp; try exact IntWalk.i64_in _ (by omega)
    refine obe_val (by rfl) ?_ ?_
    · clear k8_b3_0 g8_b3_0 k8_b3_1 g8_b3_1 k8_b4_0 g8_b4_0 k8_b4_1 g8_b4_1 k8_b5_0 g8_b5_0 k8_b5_1 g8_b5_1 k8_g9_0 g8_g9_0 k8_g9_1 g8_g9_1 k8_g10_0 g8_g10_0 k8_g10_1 g8_g10_1 k8_g11_0 g8_g11_0 k8_g11_1 g8_g11_1 B8 z8; intro f hf; have u8 : f 8 = (.int .i64 d) := (by rw [← hf]; rfl); clear hf; rintro w' ⟨h0, h1, h2, h3, h4, h5, h6, h7, h8, h9, h10, h11, h12, h13, h14, h15, h16, h17, h18, h19, h20, h21, h22, h23⟩; go_simp; try exact IntWalk.i64_in _ (by omega)
    refine obe_call (by rfl) ?_ ?_ ?_
    · clear k8_b3_0 g8_b3_0 k8_b3_1 g8_b3_1 k8_b4_0 g8_b4_0 k8_b4_1 g8_b4_1 k8_b5_0 g8_b5_0 k8_b5_1 g8_b5_1 k8_g9_0 g8_g9_0 k8_g9_1 g8_g9_1 k8_g10_0 g8_g10_0 k8_g10_1 g8_g10_1 k8_g11_0 g8_g11_0 k8_g11_1 g8_g11_1 B8 z8; intro f hf; have u62 : f 62 = (.agg #[.int .i64 x, .int .i64 y]) := (by rw [← hf]; rfl); have u63 : f 63 = (.agg #[.int .i64 u, .int .i64 v]) := (by rw [← hf]; rfl); have u64 : f 64 = (.int .i64 d) := (by rw [← hf]; rfl); have u65 : f 65 = (.int .i64 d) := (by rw [← hf]; rfl); clear hf; intro w' _; simp only [execOp, resolve, invoke, rhoF_tmp, rhoF_func, rhoF_const, u62, u63, u64, u65, List.map_toArray, List.map_cons, List.map_nil]; go_simp
    · clear k8_b3_0 g8_b3_0 k8_b3_1 g8_b3_1 k8_b4_0 g8_b4_0 k8_b4_1 g8_b4_1 k8_b5_0 g8_b5_0 k8_b5_1 g8_b5_1 k8_g9_0 g8_g9_0 k8_g9_1 g8_g9_1 k8_g10_0 g8_g10_0 k8_g10_1 g8_g10_1 k8_g11_0 g8_g11_0 k8_g11_1 g8_g11_1 B8 z8; rintro w' ⟨h0, h1, h2, h3, h4, h5, h6, h7, h8, h9, h10, h11, h12, h13, h14, h15, h16, h17, h18, h19, h20, h21, h22, h23⟩; exact l4 _
    refine obe_val (by rfl) ?_ ?_
    · clear k8_b3_0 g8_b3_0 k8_b3_1 g8_b3_1 k8_b4_0 g8_b4_0 k8_b4_1 g8_b4_1 k8_b5_0 g8_b5_0 k8_b5_1 g8_b5_1 k8_g9_0 g8_g9_0 k8_g9_1 g8_g9_1 k8_g10_0 g8_g10_0 k8_g10_1 g8_g10_1 k8_g11_0 g8_g11_0 k8_g11_1 g8_g11_1 B8 z8; intro f hf; have u4 : f 4 = (.pointer (some ⟨w.heap.size + 1, 0, none⟩)) := (by rw [← hf]; rfl); clear hf; rintro w' ⟨h0, h1, h2, h3, h4, h5, h6, h7, h8, h9, h10, h11, h12, h13, h14, h15, h16, h17, h18, h19, h20, h21, h22, h23⟩; go_simp; try exact IntWalk.i64_in _ (by omega)
    refine obe_val (by rfl) ?_ ?_
    · clear k8_b3_0 g8_b3_0 k8_b3_1 g8_b3_1 k8_b4_0 g8_b4_0 k8_b4_1 g8_b4_1 k8_b5_0 g8_b5_0 k8_b5_1 g8_b5_1 k8_g9_0 g8_g9_0 k8_g9_1 g8_g9_1 k8_g10_0 g8_g10_0 k8_g10_1 g8_g10_1 k8_g11_0 g8_g11_0 k8_g11_1 g8_g11_1 B8 z8; intro f hf; have u66 : f 66 = (.agg #[.int .i64 u, .int .i64 v]) := (by rw [← hf]; rfl); have u67 : f 67 = (.agg #[.int .i64 u, .int .i64 v]) := (by rw [← hf]; rfl); clear hf; rintro w' ⟨h0, h1, h2, h3, h4, h5, h6, h7, h8, h9, h10, h11, h12, h13, h14, h15, h16, h17, h18, h19, h20, h21, h22, h23⟩; go_simp; try exact IntWalk.i64_in _ (by omega)
    refine obe_val (by rfl) ?_ ?_
    · clear k8_b3_0 g8_b3_0 k8_b3_1 g8_b3_1 k8_b4_0 g8_b4_0 k8_b4_1 g8_b4_1 k8_b5_0 g8_b5_0 k8_b5_1 g8_b5_1 k8_g9_0 g8_g9_0 k8_g9_1 g8_g9_1 k8_g10_0 g8_g10_0 k8_g10_1 g8_g10_1 k8_g11_0 g8_g11_0 k8_g11_1 g8_g11_1 B8 z8; intro f hf; have u61 : f 61 = (.bool true) := (by rw [← hf]; rfl); have u68 : f 68 = (.bool true) := (by rw [← hf]; rfl); clear hf; rintro w' ⟨h0, h1, h2, h3, h4, h5, h6, h7, h8, h9, h10, h11, h12, h13, h14, h15, h16, h17, h18, h19, h20, h21, h22, h23⟩; go_simp; try exact IntWalk.i64_in _ (by omega)
    refine obe_val (by rfl) ?_ ?_
    · clear k8_b3_0 g8_b3_0 k8_b3_1 g8_b3_1 k8_b4_0 g8_b4_0 k8_b4_1 g8_b4_1 k8_b5_0 g8_b5_0 k8_b5_1 g8_b5_1 k8_g9_0 g8_g9_0 k8_g9_1 g8_g9_1 k8_g10_0 g8_g10_0 k8_g10_1 g8_g10_1 k8_g11_0 g8_g11_0 k8_g11_1 g8_g11_1 B8 z8; intro f hf; have u69 : f 69 = (.bool true) := (by rw [← hf]; rfl); clear hf; rintro w' ⟨h0, h1, h2, h3, h4, h5, h6, h7, h8, h9, h10, h11, h12, h13, h14, h15, h16, h17, h18, h19, h20, h21, h22, h23⟩; go_simp; try exact IntWalk.i64_in _ (by omega)
    refine obe_val (by rfl) ?_ ?_
    · clear k8_b3_0 g8_b3_0 k8_b3_1 g8_b3_1 k8_b4_0 g8_b4_0 k8_b4_1 g8_b4_1 k8_b5_0 g8_b5_0 k8_b5_1 g8_b5_1 k8_g9_0 g8_g9_0 k8_g9_1 g8_g9_1 k8_g10_0 g8_g10_0 k8_g10_1 g8_g10_1 k8_g11_0 g8_g11_0 k8_g11_1 g8_g11_1 B8 z8; intro f hf; have u3 : f 3 = (.pointer (some ⟨w.heap.size, 0, none⟩)) := (by rw [← hf]; rfl); clear hf; rintro w' ⟨h0, h1, h2, h3, h4, h5, h6, h7, h8, h9, h10, h11, h12, h13, h14, h15, h16, h17, h18, h19, h20, h21, h22, h23⟩; go_simp; try exact IntWalk.i64_in _ (by omega)
    refine obe_val (by rfl) ?_ ?_
    · clear k8_b3_0 g8_b3_0 k8_b3_1 g8_b3_1 k8_b4_0 g8_b4_0 k8_b4_1 g8_b4_1 k8_b5_0 g8_b5_0 k8_b5_1 g8_b5_1 k8_g9_0 g8_g9_0 k8_g9_1 g8_g9_1 k8_g10_0 g8_g10_0 k8_g10_1 g8_g10_1 k8_g11_0 g8_g11_0 k8_g11_1 g8_g11_1 B8 z8; intro f hf; have u4 : f 4 = (.pointer (some ⟨w.heap.size + 1, 0, none⟩)) := (by rw [← hf]; rfl); clear hf; rintro w' ⟨h0, h1, h2, h3, h4, h5, h6, h7, h8, h9, h10, h11, h12, h13, h14, h15, h16, h17, h18, h19, h20, h21, h22, h23⟩; go_simp; try exact IntWalk.i64_in _ (by omega)
    refine obe_val (by rfl) ?_ ?_
    · clear k8_b3_0 g8_b3_0 k8_b3_1 g8_b3_1 k8_b4_0 g8_b4_0 k8_b4_1 g8_b4_1 k8_b5_0 g8_b5_0 k8_b5_1 g8_b5_1 k8_g9_0 g8_g9_0 k8_g9_1 g8_g9_1 k8_g10_0 g8_g10_0 k8_g10_1 g8_g10_1 k8_g11_0 g8_g11_0 k8_g11_1 g8_g11_1 B8 z8; intro f hf; have u8 : f 8 = (.int .i64 d) := (by rw [← hf]; rfl); clear hf; rintro w' ⟨h0, h1, h2, h3, h4, h5, h6, h7, h8, h9, h10, h11, h12, h13, h14, h15, h16, h17, h18, h19, h20, h21, h22, h23⟩; go_simp; try exact IntWalk.i64_in _ (by omega)
    refine obe_call (by rfl) ?_ ?_ ?_
    · clear k8_b3_0 g8_b3_0 k8_b3_1 g8_b3_1 k8_b4_0 g8_b4_0 k8_b4_1 g8_b4_1 k8_b5_0 g8_b5_0 k8_b5_1 g8_b5_1 k8_g9_0 g8_g9_0 k8_g9_1 g8_g9_1 k8_g10_0 g8_g10_0 k8_g10_1 g8_g10_1 k8_g11_0 g8_g11_0 k8_g11_1 g8_g11_1 B8 z8; intro f hf; have u71 : f 71 = (.agg #[.int .i64 x, .int .i64 y]) := (by rw [← hf]; rfl); have u72 : f 72 = (.agg #[.int .i64 u, .int .i64 v]) := (by rw [← hf]; rfl); have u73 : f 73 = (.int .i64 d) := (by rw [← hf]; rfl); clear hf; intro w' _; simp only [execOp, resolve, invoke, rhoF_tmp, rhoF_func, rhoF_const, u71, u72, u73, List.map_toArray, List.map_cons, List.map_nil]; go_simp
    · clear k8_b3_0 g8_b3_0 k8_b3_1 g8_b3_1 k8_b4_0 g8_b4_0 k8_b4_1 g8_b4_1 k8_b5_0 g8_b5_0 k8_b5_1 g8_b5_1 k8_g9_0 g8_g9_0 k8_g9_1 g8_g9_1 k8_g10_0 g8_g10_0 k8_g10_1 g8_g10_1 k8_g11_0 g8_g11_0 k8_g11_1 g8_g11_1 B8 z8; rintro w' ⟨h0, h1, h2, h3, h4, h5, h6, h7, h8, h9, h10, h11, h12, h13, h14, h15, h16, h17, h18, h19, h20, h21, h22, h23⟩; exact l5 _
    refine obe_val (by rfl) ?_ ?_
    · clear k8_b3_0 g8_b3_0 k8_b3_1 g8_b3_1 k8_b4_0 g8_b4_0 k8_b4_1 g8_b4_1 k8_b5_0 g8_b5_0 k8_b5_1 g8_b5_1 k8_g9_0 g8_g9_0 k8_g9_1 g8_g9_1 k8_g10_0 g8_g10_0 k8_g10_1 g8_g10_1 k8_g11_0 g8_g11_0 k8_g11_1 g8_g11_1 B8 z8; intro f hf; have u3 : f 3 = (.pointer (some ⟨w.heap.size, 0, none⟩)) := (by rw [← hf]; rfl); clear hf; rintro w' ⟨h0, h1, h2, h3, h4, h5, h6, h7, h8, h9, h10, h11, h12, h13, h14, h15, h16, h17, h18, h19, h20, h21, h22, h23⟩; go_simp; try exact IntWalk.i64_in _ (by omega)
    refine obe_val (by rfl) ?_ ?_
    · clear k8_b3_0 g8_b3_0 k8_b3_1 g8_b3_1 k8_b4_0 g8_b4_0 k8_b4_1 g8_b4_1 k8_b5_0 g8_b5_0 k8_b5_1 g8_b5_1 k8_g9_0 g8_g9_0 k8_g9_1 g8_g9_1 k8_g10_0 g8_g10_0 k8_g10_1 g8_g10_1 k8_g11_0 g8_g11_0 k8_g11_1 g8_g11_1 B8 z8; intro f hf; have u74 : f 74 = (.agg #[.int .i64 x, .int .i64 y]) := (by rw [← hf]; rfl); have u75 : f 75 = (.agg #[.int .i64 x, .int .i64 y]) := (by rw [← hf]; rfl); clear hf; rintro w' ⟨h0, h1, h2, h3, h4, h5, h6, h7, h8, h9, h10, h11, h12, h13, h14, h15, h16, h17, h18, h19, h20, h21, h22, h23⟩; go_simp; try exact IntWalk.i64_in _ (by omega)
    refine obe_val (by rfl) ?_ ?_
    · clear k8_b3_0 g8_b3_0 k8_b3_1 g8_b3_1 k8_b4_0 g8_b4_0 k8_b4_1 g8_b4_1 k8_b5_0 g8_b5_0 k8_b5_1 g8_b5_1 k8_g9_0 g8_g9_0 k8_g9_1 g8_g9_1 k8_g10_0 g8_g10_0 k8_g10_1 g8_g10_1 k8_g11_0 g8_g11_0 k8_g11_1 g8_g11_1 B8 z8; intro f hf; have u70 : f 70 = (.bool true) := (by rw [← hf]; rfl); have u76 : f 76 = (.bool true) := (by rw [← hf]; rfl); clear hf; rintro w' ⟨h0, h1, h2, h3, h4, h5, h6, h7, h8, h9, h10, h11, h12, h13, h14, h15, h16, h17, h18, h19, h20, h21, h22, h23⟩; go_simp; try exact IntWalk.i64_in _ (by omega)
    refine obe_val (by rfl) ?_ ?_
    · clear k8_b3_0 g8_b3_0 k8_b3_1 g8_b3_1 k8_b4_0 g8_b4_0 k8_b4_1 g8_b4_1 k8_b5_0 g8_b5_0 k8_b5_1 g8_b5_1 k8_g9_0 g8_g9_0 k8_g9_1 g8_g9_1 k8_g10_0 g8_g10_0 k8_g10_1 g8_g10_1 k8_g11_0 g8_g11_0 k8_g11_1 g8_g11_1 B8 z8; intro f hf; have u77 : f 77 = (.bool true) := (by rw [← hf]; rfl); clear hf; rintro w' ⟨h0, h1, h2, h3, h4, h5, h6, h7, h8, h9, h10, h11, h12, h13, h14, h15, h16, h17, h18, h19, h20, h21, h22, h23⟩; go_simp; try exact IntWalk.i64_in _ (by omega)
    refine obe_val (by rfl) ?_ ?_
    · clear k8_b3_0 g8_b3_0 k8_b3_1 g8_b3_1 k8_b4_0 g8_b4_0 k8_b4_1 g8_b4_1 k8_b5_0 g8_b5_0 k8_b5_1 g8_b5_1 k8_g9_0 g8_g9_0 k8_g9_1 g8_g9_1 k8_g10_0 g8_g10_0 k8_g10_1 g8_g10_1 k8_g11_0 g8_g11_0 k8_g11_1 g8_g11_1 B8 z8; intro f hf; have u9 : f 9 = (.pointer (some ⟨w5.heap.size, 0, none⟩)) := (by rw [← hf]; rfl); clear hf; rintro w' ⟨h0, h1, h2, h3, h4, h5, h6, h7, h8, h9, h10, h11, h12, h13, h14, h15, h16, h17, h18, h19, h20, h21, h22, h23⟩; go_simp; try exact IntWalk.i64_in _ (by omega)
    refine obe_val (by rfl) ?_ ?_
    · clear k8_b3_0 g8_b3_0 k8_b3_1 g8_b3_1 k8_b4_0 g8_b4_0 k8_b4_1 g8_b4_1 k8_b5_0 g8_b5_0 k8_b5_1 g8_b5_1 k8_g9_0 g8_g9_0 k8_g9_1 g8_g9_1 k8_g10_0 g8_g10_0 k8_g10_1 g8_g10_1 k8_g11_0 g8_g11_0 k8_g11_1 g8_g11_1 B8 z8; intro f hf; have u79 : f 79 = (.pointer (some ⟨w5.heap.size, 0, none⟩)) := (by rw [← hf]; rfl); clear hf; rintro w' ⟨h0, h1, h2, h3, h4, h5, h6, h7, h8, h9, h10, h11, h12, h13, h14, h15, h16, h17, h18, h19, h20, h21, h22, h23⟩; go_simp; try exact IntWalk.i64_in _ (by omega)
    refine obe_val (by rfl) ?_ ?_
    · clear k8_b3_0 g8_b3_0 k8_b3_1 g8_b3_1 k8_b4_0 g8_b4_0 k8_b4_1 g8_b4_1 k8_b5_0 g8_b5_0 k8_b5_1 g8_b5_1 k8_g9_0 g8_g9_0 k8_g9_1 g8_g9_1 k8_g10_0 g8_g10_0 k8_g10_1 g8_g10_1 k8_g11_0 g8_g11_0 k8_g11_1 g8_g11_1 B8 z8; intro f hf; have u3 : f 3 = (.pointer (some ⟨w.heap.size, 0, none⟩)) := (by rw [← hf]; rfl); clear hf; rintro w' ⟨h0, h1, h2, h3, h4, h5, h6, h7, h8, h9, h10, h11, h12, h13, h14, h15, h16, h17, h18, h19, h20, h21, h22, h23⟩; go_simp; try exact IntWalk.i64_in _ (by omega)
    refine obe_val (by rfl) ?_ ?_
    · clear k8_b3_0 g8_b3_0 k8_b3_1 g8_b3_1 k8_b4_0 g8_b4_0 k8_b4_1 g8_b4_1 k8_b5_0 g8_b5_0 k8_b5_1 g8_b5_1 k8_g9_0 g8_g9_0 k8_g9_1 g8_g9_1 k8_g10_0 g8_g10_0 k8_g10_1 g8_g10_1 k8_g11_0 g8_g11_0 k8_g11_1 g8_g11_1 B8 z8; intro f hf; have u81 : f 81 = (.pointer (some ⟨w.heap.size, 0, none⟩)) := (by rw [← hf]; rfl); clear hf; rintro w' ⟨h0, h1, h2, h3, h4, h5, h6, h7, h8, h9, h10, h11, h12, h13, h14, h15, h16, h17, h18, h19, h20, h21, h22, h23⟩; go_simp; try exact IntWalk.i64_in _ (by omega)
    refine obe_val (by rfl) ?_ ?_
    · clear k8_b3_0 g8_b3_0 k8_b3_1 g8_b3_1 k8_b4_0 g8_b4_0 k8_b4_1 g8_b4_1 k8_b5_0 g8_b5_0 k8_b5_1 g8_b5_1 k8_g9_0 g8_g9_0 k8_g9_1 g8_g9_1 k8_g10_0 g8_g10_0 k8_g10_1 g8_g10_1 k8_g11_0 g8_g11_0 k8_g11_1 g8_g11_1 B8 z8; intro f hf; have u4 : f 4 = (.pointer (some ⟨w.heap.size + 1, 0, none⟩)) := (by rw [← hf]; rfl); clear hf; rintro w' ⟨h0, h1, h2, h3, h4, h5, h6, h7, h8, h9, h10, h11, h12, h13, h14, h15, h16, h17, h18, h19, h20, h21, h22, h23⟩; go_simp; try exact IntWalk.i64_in _ (by omega)
    refine obe_val (by rfl) ?_ ?_
    · clear k8_b3_0 g8_b3_0 k8_b3_1 g8_b3_1 k8_b4_0 g8_b4_0 k8_b4_1 g8_b4_1 k8_b5_0 g8_b5_0 k8_b5_1 g8_b5_1 k8_g9_0 g8_g9_0 k8_g9_1 g8_g9_1 k8_g10_0 g8_g10_0 k8_g10_1 g8_g10_1 k8_g11_0 g8_g11_0 k8_g11_1 g8_g11_1 B8 z8; intro f hf; have u83 : f 83 = (.pointer (some ⟨w.heap.size + 1, 0, none⟩)) := (by rw [← hf]; rfl); clear hf; rintro w' ⟨h0, h1, h2, h3, h4, h5, h6, h7, h8, h9, h10, h11, h12, h13, h14, h15, h16, h17, h18, h19, h20, h21, h22, h23⟩; go_simp; try exact IntWalk.i64_in _ (by omega)
    refine obe_val (by rfl) ?_ ?_
    · clear k8_b3_0 g8_b3_0 k8_b3_1 g8_b3_1 k8_b4_0 g8_b4_0 k8_b4_1 g8_b4_1 k8_b5_0 g8_b5_0 k8_b5_1 g8_b5_1 k8_g9_0 g8_g9_0 k8_g9_1 g8_g9_1 k8_g10_0 g8_g10_0 k8_g10_1 g8_g10_1 k8_g11_0 g8_g11_0 k8_g11_1 g8_g11_1 B8 z8; intro f hf; have u82 : f 82 = (.int .i64 x) := (by rw [← hf]; rfl); have u84 : f 84 = (.int .i64 u) := (by rw [← hf]; rfl); clear hf; rintro w' ⟨h0, h1, h2, h3, h4, h5, h6, h7, h8, h9, h10, h11, h12, h13, h14, h15, h16, h17, h18, h19, h20, h21, h22, h23⟩; go_simp; try exact IntWalk.i64_in _ (by omega)
    refine obe_val (by rfl) ?_ ?_
    · clear k8_b3_0 g8_b3_0 k8_b3_1 g8_b3_1 k8_b4_0 g8_b4_0 k8_b4_1 g8_b4_1 k8_b5_0 g8_b5_0 k8_b5_1 g8_b5_1 k8_g9_0 g8_g9_0 k8_g9_1 g8_g9_1 k8_g10_0 g8_g10_0 k8_g10_1 g8_g10_1 k8_g11_0 g8_g11_0 k8_g11_1 g8_g11_1 B8 z8; intro f hf; have u80 : f 80 = (.int .i64 px) := (by rw [← hf]; rfl); have u85 : f 85 = (.int .i64 m3) := (by rw [← hf]; rfl); clear hf; rintro w' ⟨h0, h1, h2, h3, h4, h5, h6, h7, h8, h9, h10, h11, h12, h13, h14, h15, h16, h17, h18, h19, h20, h21, h22, h23⟩; go_simp; try exact IntWalk.i64_in _ (by omega)
    refine obe_val (by rfl) ?_ ?_
    · clear k8_b3_0 g8_b3_0 k8_b3_1 g8_b3_1 k8_b4_0 g8_b4_0 k8_b4_1 g8_b4_1 k8_b5_0 g8_b5_0 k8_b5_1 g8_b5_1 k8_g9_0 g8_g9_0 k8_g9_1 g8_g9_1 k8_g10_0 g8_g10_0 k8_g10_1 g8_g10_1 k8_g11_0 g8_g11_0 k8_g11_1 g8_g11_1 B8 z8; intro f hf; have u78 : f 78 = (.bool true) := (by rw [← hf]; rfl); have u86 : f 86 = (.bool true) := (by rw [← hf]; rfl); clear hf; rintro w' ⟨h0, h1, h2, h3, h4, h5, h6, h7, h8, h9, h10, h11, h12, h13, h14, h15, h16, h17, h18, h19, h20, h21, h22, h23⟩; go_simp; try exact IntWalk.i64_in _ (by omega)
    refine obe_val (by rfl) ?_ ?_
    · clear k8_b3_0 g8_b3_0 k8_b3_1 g8_b3_1 k8_b4_0 g8_b4_0 k8_b4_1 g8_b4_1 k8_b5_0 g8_b5_0 k8_b5_1 g8_b5_1 k8_g9_0 g8_g9_0 k8_g9_1 g8_g9_1 k8_g10_0 g8_g10_0 k8_g10_1 g8_g10_1 k8_g11_0 g8_g11_0 k8_g11_1 g8_g11_1 B8 z8; intro f hf; have u87 : f 87 = (.bool true) := (by rw [← hf]; rfl); clear hf; rintro w' ⟨h0, h1, h2, h3, h4, h5, h6, h7, h8, h9, h10, h11, h12, h13, h14, h15, h16, h17, h18, h19, h20, h21, h22, h23⟩; go_simp; try exact IntWalk.i64_in _ (by omega)
    refine obe_val (by rfl) ?_ ?_
    · clear k8_b3_0 g8_b3_0 k8_b3_1 g8_b3_1 k8_b4_0 g8_b4_0 k8_b4_1 g8_b4_1 k8_b5_0 g8_b5_0 k8_b5_1 g8_b5_1 k8_g9_0 g8_g9_0 k8_g9_1 g8_g9_1 k8_g10_0 g8_g10_0 k8_g10_1 g8_g10_1 k8_g11_0 g8_g11_0 k8_g11_1 g8_g11_1 B8 z8; intro f hf; have u9 : f 9 = (.pointer (some ⟨w5.heap.size, 0, none⟩)) := (by rw [← hf]; rfl); clear hf; rintro w' ⟨h0, h1, h2, h3, h4, h5, h6, h7, h8, h9, h10, h11, h12, h13, h14, h15, h16, h17, h18, h19, h20, h21, h22, h23⟩; go_simp; try exact IntWalk.i64_in _ (by omega)
    refine obe_val (by rfl) ?_ ?_
    · clear k8_b3_0 g8_b3_0 k8_b3_1 g8_b3_1 k8_b4_0 g8_b4_0 k8_b4_1 g8_b4_1 k8_b5_0 g8_b5_0 k8_b5_1 g8_b5_1 k8_g9_0 g8_g9_0 k8_g9_1 g8_g9_1 k8_g10_0 g8_g10_0 k8_g10_1 g8_g10_1 k8_g11_0 g8_g11_0 k8_g11_1 g8_g11_1 B8 z8; intro f hf; have u89 : f 89 = (.pointer (some ⟨w5.heap.size, 0, none⟩)) := (by rw [← hf]; rfl); clear hf; rintro w' ⟨h0, h1, h2, h3, h4, h5, h6, h7, h8, h9, h10, h11, h12, h13, h14, h15, h16, h17, h18, h19, h20, h21, h22, h23⟩; go_simp; try exact IntWalk.i64_in _ (by omega)
    refine obe_val (by rfl) ?_ ?_
    · clear k8_b3_0 g8_b3_0 k8_b3_1 g8_b3_1 k8_b4_0 g8_b4_0 k8_b4_1 g8_b4_1 k8_b5_0 g8_b5_0 k8_b5_1 g8_b5_1 k8_g9_0 g8_g9_0 k8_g9_1 g8_g9_1 k8_g10_0 g8_g10_0 k8_g10_1 g8_g10_1 k8_g11_0 g8_g11_0 k8_g11_1 g8_g11_1 B8 z8; intro f hf; have u3 : f 3 = (.pointer (some ⟨w.heap.size, 0, none⟩)) := (by rw [← hf]; rfl); clear hf; rintro w' ⟨h0, h1, h2, h3, h4, h5, h6, h7, h8, h9, h10, h11, h12, h13, h14, h15, h16, h17, h18, h19, h20, h21, h22, h23⟩; go_simp; try exact IntWalk.i64_in _ (by omega)
    refine obe_val (by rfl) ?_ ?_
    · clear k8_b3_0 g8_b3_0 k8_b3_1 g8_b3_1 k8_b4_0 g8_b4_0 k8_b4_1 g8_b4_1 k8_b5_0 g8_b5_0 k8_b5_1 g8_b5_1 k8_g9_0 g8_g9_0 k8_g9_1 g8_g9_1 k8_g10_0 g8_g10_0 k8_g10_1 g8_g10_1 k8_g11_0 g8_g11_0 k8_g11_1 g8_g11_1 B8 z8; intro f hf; have u91 : f 91 = (.pointer (some ⟨w.heap.size, 0, none⟩)) := (by rw [← hf]; rfl); clear hf; rintro w' ⟨h0, h1, h2, h3, h4, h5, h6, h7, h8, h9, h10, h11, h12, h13, h14, h15, h16, h17, h18, h19, h20, h21, h22, h23⟩; go_simp; try exact IntWalk.i64_in _ (by omega)
    refine obe_val (by rfl) ?_ ?_
    · clear k8_b3_0 g8_b3_0 k8_b3_1 g8_b3_1 k8_b4_0 g8_b4_0 k8_b4_1 g8_b4_1 k8_b5_0 g8_b5_0 k8_b5_1 g8_b5_1 k8_g9_0 g8_g9_0 k8_g9_1 g8_g9_1 k8_g10_0 g8_g10_0 k8_g10_1 g8_g10_1 k8_g11_0 g8_g11_0 k8_g11_1 g8_g11_1 B8 z8; intro f hf; have u4 : f 4 = (.pointer (some ⟨w.heap.size + 1, 0, none⟩)) := (by rw [← hf]; rfl); clear hf; rintro w' ⟨h0, h1, h2, h3, h4, h5, h6, h7, h8, h9, h10, h11, h12, h13, h14, h15, h16, h17, h18, h19, h20, h21, h22, h23⟩; go_simp; try exact IntWalk.i64_in _ (by omega)
    refine obe_val (by rfl) ?_ ?_
    · clear k8_b3_0 g8_b3_0 k8_b3_1 g8_b3_1 k8_b4_0 g8_b4_0 k8_b4_1 g8_b4_1 k8_b5_0 g8_b5_0 k8_b5_1 g8_b5_1 k8_g9_0 g8_g9_0 k8_g9_1 g8_g9_1 k8_g10_0 g8_g10_0 k8_g10_1 g8_g10_1 k8_g11_0 g8_g11_0 k8_g11_1 g8_g11_1 B8 z8; intro f hf; have u93 : f 93 = (.pointer (some ⟨w.heap.size + 1, 0, none⟩)) := (by rw [← hf]; rfl); clear hf; rintro w' ⟨h0, h1, h2, h3, h4, h5, h6, h7, h8, h9, h10, h11, h12, h13, h14, h15, h16, h17, h18, h19, h20, h21, h22, h23⟩; go_simp; try exact IntWalk.i64_in _ (by omega)
    refine obe_val (by rfl) ?_ ?_
    · clear k8_b3_0 g8_b3_0 k8_b3_1 g8_b3_1 k8_b4_0 g8_b4_0 k8_b4_1 g8_b4_1 k8_b5_0 g8_b5_0 k8_b5_1 g8_b5_1 k8_g9_0 g8_g9_0 k8_g9_1 g8_g9_1 k8_g10_0 g8_g10_0 k8_g10_1 g8_g10_1 k8_g11_0 g8_g11_0 k8_g11_1 g8_g11_1 B8 z8; intro f hf; have u92 : f 92 = (.int .i64 x) := (by rw [← hf]; rfl); have u94 : f 94 = (.int .i64 u) := (by rw [← hf]; rfl); clear hf; rintro w' ⟨h0, h1, h2, h3, h4, h5, h6, h7, h8, h9, h10, h11, h12, h13, h14, h15, h16, h17, h18, h19, h20, h21, h22, h23⟩; go_simp; try exact IntWalk.i64_in _ (by omega)
    refine obe_val (by rfl) ?_ ?_
    · clear k8_b3_0 g8_b3_0 k8_b3_1 g8_b3_1 k8_b4_0 g8_b4_0 k8_b4_1 g8_b4_1 k8_b5_0 g8_b5_0 k8_b5_1 g8_b5_1 k8_g9_0 g8_g9_0 k8_g9_1 g8_g9_1 k8_g10_0 g8_g10_0 k8_g10_1 g8_g10_1 k8_g11_0 g8_g11_0 k8_g11_1 g8_g11_1 B8 z8; intro f hf; have u90 : f 90 = (.int .i64 px) := (by rw [← hf]; rfl); have u95 : f 95 = (.int .i64 m4) := (by rw [← hf]; rfl); clear hf; rintro w' ⟨h0, h1, h2, h3, h4, h5, h6, h7, h8, h9, h10, h11, h12, h13, h14, h15, h16, h17, h18, h19, h20, h21, h22, h23⟩; go_simp; try exact IntWalk.i64_in _ (by omega)
    refine obe_val (by rfl) ?_ ?_
    · clear k8_b3_0 g8_b3_0 k8_b3_1 g8_b3_1 k8_b4_0 g8_b4_0 k8_b4_1 g8_b4_1 k8_b5_0 g8_b5_0 k8_b5_1 g8_b5_1 k8_g9_0 g8_g9_0 k8_g9_1 g8_g9_1 k8_g10_0 g8_g10_0 k8_g10_1 g8_g10_1 k8_g11_0 g8_g11_0 k8_g11_1 g8_g11_1 B8 z8; intro f hf; have u88 : f 88 = (.bool true) := (by rw [← hf]; rfl); have u96 : f 96 = (.bool true) := (by rw [← hf]; rfl); clear hf; rintro w' ⟨h0, h1, h2, h3, h4, h5, h6, h7, h8, h9, h10, h11, h12, h13, h14, h15, h16, h17, h18, h19, h20, h21, h22, h23⟩; go_simp; try exact IntWalk.i64_in _ (by omega)
    refine obe_val (by rfl) ?_ ?_
    · clear k8_b3_0 g8_b3_0 k8_b3_1 g8_b3_1 k8_b4_0 g8_b4_0 k8_b4_1 g8_b4_1 k8_b5_0 g8_b5_0 k8_b5_1 g8_b5_1 k8_g9_0 g8_g9_0 k8_g9_1 g8_g9_1 k8_g10_0 g8_g10_0 k8_g10_1 g8_g10_1 k8_g11_0 g8_g11_0 k8_g11_1 g8_g11_1 B8 z8; intro f hf; have u97 : f 97 = (.bool true) := (by rw [← hf]; rfl); clear hf; rintro w' ⟨h0, h1, h2, h3, h4, h5, h6, h7, h8, h9, h10, h11, h12, h13, h14, h15, h16, h17, h18, h19, h20, h21, h22, h23⟩; go_simp; try exact IntWalk.i64_in _ (by omega)
    refine obe_val (by rfl) ?_ ?_
    · clear k8_b3_0 g8_b3_0 k8_b3_1 g8_b3_1 k8_b4_0 g8_b4_0 k8_b4_1 g8_b4_1 k8_b5_0 g8_b5_0 k8_b5_1 g8_b5_1 k8_g9_0 g8_g9_0 k8_g9_1 g8_g9_1 k8_g10_0 g8_g10_0 k8_g10_1 g8_g10_1 k8_g11_0 g8_g11_0 k8_g11_1 g8_g11_1 B8 z8; intro f hf; have u9 : f 9 = (.pointer (some ⟨w5.heap.size, 0, none⟩)) := (by rw [← hf]; rfl); clear hf; rintro w' ⟨h0, h1, h2, h3, h4, h5, h6, h7, h8, h9, h10, h11, h12, h13, h14, h15, h16, h17, h18, h19, h20, h21, h22, h23⟩; go_simp; try exact IntWalk.i64_in _ (by omega)
    refine obe_val (by rfl) ?_ ?_
    · clear k8_b3_0 g8_b3_0 k8_b3_1 g8_b3_1 k8_b4_0 g8_b4_0 k8_b4_1 g8_b4_1 k8_b5_0 g8_b5_0 k8_b5_1 g8_b5_1 k8_g9_0 g8_g9_0 k8_g9_1 g8_g9_1 k8_g10_0 g8_g10_0 k8_g10_1 g8_g10_1 k8_g11_0 g8_g11_0 k8_g11_1 g8_g11_1 B8 z8; intro f hf; have u99 : f 99 = (.pointer (some ⟨w5.heap.size, 1, none⟩)) := (by rw [← hf]; rfl); clear hf; rintro w' ⟨h0, h1, h2, h3, h4, h5, h6, h7, h8, h9, h10, h11, h12, h13, h14, h15, h16, h17, h18, h19, h20, h21, h22, h23⟩; go_simp; try exact IntWalk.i64_in _ (by omega)
    refine obe_val (by rfl) ?_ ?_
    · clear k8_b3_0 g8_b3_0 k8_b3_1 g8_b3_1 k8_b4_0 g8_b4_0 k8_b4_1 g8_b4_1 k8_b5_0 g8_b5_0 k8_b5_1 g8_b5_1 k8_g9_0 g8_g9_0 k8_g9_1 g8_g9_1 k8_g10_0 g8_g10_0 k8_g10_1 g8_g10_1 k8_g11_0 g8_g11_0 k8_g11_1 g8_g11_1 B8 z8; intro f hf; have u3 : f 3 = (.pointer (some ⟨w.heap.size, 0, none⟩)) := (by rw [← hf]; rfl); clear hf; rintro w' ⟨h0, h1, h2, h3, h4, h5, h6, h7, h8, h9, h10, h11, h12, h13, h14, h15, h16, h17, h18, h19, h20, h21, h22, h23⟩; go_simp; try exact IntWalk.i64_in _ (by omega)
    refine obe_val (by rfl) ?_ ?_
    · clear k8_b3_0 g8_b3_0 k8_b3_1 g8_b3_1 k8_b4_0 g8_b4_0 k8_b4_1 g8_b4_1 k8_b5_0 g8_b5_0 k8_b5_1 g8_b5_1 k8_g9_0 g8_g9_0 k8_g9_1 g8_g9_1 k8_g10_0 g8_g10_0 k8_g10_1 g8_g10_1 k8_g11_0 g8_g11_0 k8_g11_1 g8_g11_1 B8 z8; intro f hf; have u101 : f 101 = (.pointer (some ⟨w.heap.size, 1, none⟩)) := (by rw [← hf]; rfl); clear hf; rintro w' ⟨h0, h1, h2, h3, h4, h5, h6, h7, h8, h9, h10, h11, h12, h13, h14, h15, h16, h17, h18, h19, h20, h21, h22, h23⟩; go_simp; try exact IntWalk.i64_in _ (by omega)
    refine obe_val (by rfl) ?_ ?_
    · clear k8_b3_0 g8_b3_0 k8_b3_1 g8_b3_1 k8_b4_0 g8_b4_0 k8_b4_1 g8_b4_1 k8_b5_0 g8_b5_0 k8_b5_1 g8_b5_1 k8_g9_0 g8_g9_0 k8_g9_1 g8_g9_1 k8_g10_0 g8_g10_0 k8_g10_1 g8_g10_1 k8_g11_0 g8_g11_0 k8_g11_1 g8_g11_1 B8 z8; intro f hf; have u4 : f 4 = (.pointer (some ⟨w.heap.size + 1, 0, none⟩)) := (by rw [← hf]; rfl); clear hf; rintro w' ⟨h0, h1, h2, h3, h4, h5, h6, h7, h8, h9, h10, h11, h12, h13, h14, h15, h16, h17, h18, h19, h20, h21, h22, h23⟩; go_simp; try exact IntWalk.i64_in _ (by omega)
    refine obe_val (by rfl) ?_ ?_
    · clear k8_b3_0 g8_b3_0 k8_b3_1 g8_b3_1 k8_b4_0 g8_b4_0 k8_b4_1 g8_b4_1 k8_b5_0 g8_b5_0 k8_b5_1 g8_b5_1 k8_g9_0 g8_g9_0 k8_g9_1 g8_g9_1 k8_g10_0 g8_g10_0 k8_g10_1 g8_g10_1 k8_g11_0 g8_g11_0 k8_g11_1 g8_g11_1 B8 z8; intro f hf; have u103 : f 103 = (.pointer (some ⟨w.heap.size + 1, 1, none⟩)) := (by rw [← hf]; rfl); clear hf; rintro w' ⟨h0, h1, h2, h3, h4, h5, h6, h7, h8, h9, h10, h11, h12, h13, h14, h15, h16, h17, h18, h19, h20, h21, h22, h23⟩; go_simp; try exact IntWalk.i64_in _ (by omega)
    refine obe_val (by rfl) ?_ ?_
    · clear k8_b3_0 g8_b3_0 k8_b3_1 g8_b3_1 k8_b4_0 g8_b4_0 k8_b4_1 g8_b4_1 k8_b5_0 g8_b5_0 k8_b5_1 g8_b5_1 k8_g9_0 g8_g9_0 k8_g9_1 g8_g9_1 k8_g10_0 g8_g10_0 k8_g10_1 g8_g10_1 k8_g11_0 g8_g11_0 k8_g11_1 g8_g11_1 B8 z8; intro f hf; have u102 : f 102 = (.int .i64 y) := (by rw [← hf]; rfl); have u104 : f 104 = (.int .i64 v) := (by rw [← hf]; rfl); clear hf; rintro w' ⟨h0, h1, h2, h3, h4, h5, h6, h7, h8, h9, h10, h11, h12, h13, h14, h15, h16, h17, h18, h19, h20, h21, h22, h23⟩; go_simp; try exact IntWalk.i64_in _ (by omega)
    refine obe_val (by rfl) ?_ ?_
    · clear k8_b3_0 g8_b3_0 k8_b3_1 g8_b3_1 k8_b4_0 g8_b4_0 k8_b4_1 g8_b4_1 k8_b5_0 g8_b5_0 k8_b5_1 g8_b5_1 k8_g9_0 g8_g9_0 k8_g9_1 g8_g9_1 k8_g10_0 g8_g10_0 k8_g10_1 g8_g10_1 k8_g11_0 g8_g11_0 k8_g11_1 g8_g11_1 B8 z8; intro f hf; have u100 : f 100 = (.int .i64 py) := (by rw [← hf]; rfl); have u105 : f 105 = (.int .i64 m5) := (by rw [← hf]; rfl); clear hf; rintro w' ⟨h0, h1, h2, h3, h4, h5, h6, h7, h8, h9, h10, h11, h12, h13, h14, h15, h16, h17, h18, h19, h20, h21, h22, h23⟩; go_simp; try exact IntWalk.i64_in _ (by omega)
    refine obe_val (by rfl) ?_ ?_
    · clear k8_b3_0 g8_b3_0 k8_b3_1 g8_b3_1 k8_b4_0 g8_b4_0 k8_b4_1 g8_b4_1 k8_b5_0 g8_b5_0 k8_b5_1 g8_b5_1 k8_g9_0 g8_g9_0 k8_g9_1 g8_g9_1 k8_g10_0 g8_g10_0 k8_g10_1 g8_g10_1 k8_g11_0 g8_g11_0 k8_g11_1 g8_g11_1 B8 z8; intro f hf; have u98 : f 98 = (.bool true) := (by rw [← hf]; rfl); have u106 : f 106 = (.bool true) := (by rw [← hf]; rfl); clear hf; rintro w' ⟨h0, h1, h2, h3, h4, h5, h6, h7, h8, h9, h10, h11, h12, h13, h14, h15, h16, h17, h18, h19, h20, h21, h22, h23⟩; go_simp; try exact IntWalk.i64_in _ (by omega)
    refine obe_val (by rfl) ?_ ?_
    · clear k8_b3_0 g8_b3_0 k8_b3_1 g8_b3_1 k8_b4_0 g8_b4_0 k8_b4_1 g8_b4_1 k8_b5_0 g8_b5_0 k8_b5_1 g8_b5_1 k8_g9_0 g8_g9_0 k8_g9_1 g8_g9_1 k8_g10_0 g8_g10_0 k8_g10_1 g8_g10_1 k8_g11_0 g8_g11_0 k8_g11_1 g8_g11_1 B8 z8; intro f hf; have u107 : f 107 = (.bool true) := (by rw [← hf]; rfl); clear hf; rintro w' ⟨h0, h1, h2, h3, h4, h5, h6, h7, h8, h9, h10, h11, h12, h13, h14, h15, h16, h17, h18, h19, h20, h21, h22, h23⟩; go_simp; try exact IntWalk.i64_in _ (by omega)
    refine obe_val (by rfl) ?_ ?_
    · clear k8_b3_0 g8_b3_0 k8_b3_1 g8_b3_1 k8_b4_0 g8_b4_0 k8_b4_1 g8_b4_1 k8_b5_0 g8_b5_0 k8_b5_1 g8_b5_1 k8_g9_0 g8_g9_0 k8_g9_1 g8_g9_1 k8_g10_0 g8_g10_0 k8_g10_1 g8_g10_1 k8_g11_0 g8_g11_0 k8_g11_1 g8_g11_1 B8 z8; intro f hf; have u9 : f 9 = (.pointer (some ⟨w5.heap.size, 0, none⟩)) := (by rw [← hf]; rfl); clear hf; rintro w' ⟨h0, h1, h2, h3, h4, h5, h6, h7, h8, h9, h10, h11, h12, h13, h14, h15, h16, h17, h18, h19, h20, h21, h22, h23⟩; go_simp; try exact IntWalk.i64_in _ (by omega)
    refine obe_val (by rfl) ?_ ?_
    · clear k8_b3_0 g8_b3_0 k8_b3_1 g8_b3_1 k8_b4_0 g8_b4_0 k8_b4_1 g8_b4_1 k8_b5_0 g8_b5_0 k8_b5_1 g8_b5_1 k8_g9_0 g8_g9_0 k8_g9_1 g8_g9_1 k8_g10_0 g8_g10_0 k8_g10_1 g8_g10_1 k8_g11_0 g8_g11_0 k8_g11_1 g8_g11_1 B8 z8; intro f hf; have u109 : f 109 = (.pointer (some ⟨w5.heap.size, 1, none⟩)) := (by rw [← hf]; rfl); clear hf; rintro w' ⟨h0, h1, h2, h3, h4, h5, h6, h7, h8, h9, h10, h11, h12, h13, h14, h15, h16, h17, h18, h19, h20, h21, h22, h23⟩; go_simp; try exact IntWalk.i64_in _ (by omega)
    refine obe_val (by rfl) ?_ ?_
    · clear k8_b3_0 g8_b3_0 k8_b3_1 g8_b3_1 k8_b4_0 g8_b4_0 k8_b4_1 g8_b4_1 k8_b5_0 g8_b5_0 k8_b5_1 g8_b5_1 k8_g9_0 g8_g9_0 k8_g9_1 g8_g9_1 k8_g10_0 g8_g10_0 k8_g10_1 g8_g10_1 k8_g11_0 g8_g11_0 k8_g11_1 g8_g11_1 B8 z8; intro f hf; have u3 : f 3 = (.pointer (some ⟨w.heap.size, 0, none⟩)) := (by rw [← hf]; rfl); clear hf; rintro w' ⟨h0, h1, h2, h3, h4, h5, h6, h7, h8, h9, h10, h11, h12, h13, h14, h15, h16, h17, h18, h19, h20, h21, h22, h23⟩; go_simp; try exact IntWalk.i64_in _ (by omega)
    refine obe_val (by rfl) ?_ ?_
    · clear k8_b3_0 g8_b3_0 k8_b3_1 g8_b3_1 k8_b4_0 g8_b4_0 k8_b4_1 g8_b4_1 k8_b5_0 g8_b5_0 k8_b5_1 g8_b5_1 k8_g9_0 g8_g9_0 k8_g9_1 g8_g9_1 k8_g10_0 g8_g10_0 k8_g10_1 g8_g10_1 k8_g11_0 g8_g11_0 k8_g11_1 g8_g11_1 B8 z8; intro f hf; have u111 : f 111 = (.pointer (some ⟨w.heap.size, 1, none⟩)) := (by rw [← hf]; rfl); clear hf; rintro w' ⟨h0, h1, h2, h3, h4, h5, h6, h7, h8, h9, h10, h11, h12, h13, h14, h15, h16, h17, h18, h19, h20, h21, h22, h23⟩; go_simp; try exact IntWalk.i64_in _ (by omega)
    refine obe_val (by rfl) ?_ ?_
    · clear k8_b3_0 g8_b3_0 k8_b3_1 g8_b3_1 k8_b4_0 g8_b4_0 k8_b4_1 g8_b4_1 k8_b5_0 g8_b5_0 k8_b5_1 g8_b5_1 k8_g9_0 g8_g9_0 k8_g9_1 g8_g9_1 k8_g10_0 g8_g10_0 k8_g10_1 g8_g10_1 k8_g11_0 g8_g11_0 k8_g11_1 g8_g11_1 B8 z8; intro f hf; have u4 : f 4 = (.pointer (some ⟨w.heap.size + 1, 0, none⟩)) := (by rw [← hf]; rfl); clear hf; rintro w' ⟨h0, h1, h2, h3, h4, h5, h6, h7, h8, h9, h10, h11, h12, h13, h14, h15, h16, h17, h18, h19, h20, h21, h22, h23⟩; go_simp; try exact IntWalk.i64_in _ (by omega)
    refine obe_val (by rfl) ?_ ?_
    · clear k8_b3_0 g8_b3_0 k8_b3_1 g8_b3_1 k8_b4_0 g8_b4_0 k8_b4_1 g8_b4_1 k8_b5_0 g8_b5_0 k8_b5_1 g8_b5_1 k8_g9_0 g8_g9_0 k8_g9_1 g8_g9_1 k8_g10_0 g8_g10_0 k8_g10_1 g8_g10_1 k8_g11_0 g8_g11_0 k8_g11_1 g8_g11_1 B8 z8; intro f hf; have u113 : f 113 = (.pointer (some ⟨w.heap.size + 1, 1, none⟩)) := (by rw [← hf]; rfl); clear hf; rintro w' ⟨h0, h1, h2, h3, h4, h5, h6, h7, h8, h9, h10, h11, h12, h13, h14, h15, h16, h17, h18, h19, h20, h21, h22, h23⟩; go_simp; try exact IntWalk.i64_in _ (by omega)
    refine obe_val (by rfl) ?_ ?_
    · clear k8_b3_0 g8_b3_0 k8_b3_1 g8_b3_1 k8_b4_0 g8_b4_0 k8_b4_1 g8_b4_1 k8_b5_0 g8_b5_0 k8_b5_1 g8_b5_1 k8_g9_0 g8_g9_0 k8_g9_1 g8_g9_1 k8_g10_0 g8_g10_0 k8_g10_1 g8_g10_1 k8_g11_0 g8_g11_0 k8_g11_1 g8_g11_1 B8 z8; intro f hf; have u112 : f 112 = (.int .i64 y) := (by rw [← hf]; rfl); have u114 : f 114 = (.int .i64 v) := (by rw [← hf]; rfl); clear hf; rintro w' ⟨h0, h1, h2, h3, h4, h5, h6, h7, h8, h9, h10, h11, h12, h13, h14, h15, h16, h17, h18, h19, h20, h21, h22, h23⟩; go_simp; try exact IntWalk.i64_in _ (by omega)
    refine obe_val (by rfl) ?_ ?_
    · clear k8_b3_0 g8_b3_0 k8_b3_1 g8_b3_1 k8_b4_0 g8_b4_0 k8_b4_1 g8_b4_1 k8_b5_0 g8_b5_0 k8_b5_1 g8_b5_1 k8_g9_0 g8_g9_0 k8_g9_1 g8_g9_1 k8_g10_0 g8_g10_0 k8_g10_1 g8_g10_1 k8_g11_0 g8_g11_0 k8_g11_1 g8_g11_1 B8 z8; intro f hf; have u110 : f 110 = (.int .i64 py) := (by rw [← hf]; rfl); have u115 : f 115 = (.int .i64 m6) := (by rw [← hf]; rfl); clear hf; rintro w' ⟨h0, h1, h2, h3, h4, h5, h6, h7, h8, h9, h10, h11, h12, h13, h14, h15, h16, h17, h18, h19, h20, h21, h22, h23⟩; go_simp; try exact IntWalk.i64_in _ (by omega)
    refine obe_val (by rfl) ?_ ?_
    · clear k8_b3_0 g8_b3_0 k8_b3_1 g8_b3_1 k8_b4_0 g8_b4_0 k8_b4_1 g8_b4_1 k8_b5_0 g8_b5_0 k8_b5_1 g8_b5_1 k8_g9_0 g8_g9_0 k8_g9_1 g8_g9_1 k8_g10_0 g8_g10_0 k8_g10_1 g8_g10_1 k8_g11_0 g8_g11_0 k8_g11_1 g8_g11_1 B8 z8; intro f hf; have u108 : f 108 = (.bool true) := (by rw [← hf]; rfl); have u116 : f 116 = (.bool true) := (by rw [← hf]; rfl); clear hf; rintro w' ⟨h0, h1, h2, h3, h4, h5, h6, h7, h8, h9, h10, h11, h12, h13, h14, h15, h16, h17, h18, h19, h20, h21, h22, h23⟩; go_simp; try exact IntWalk.i64_in _ (by omega)
    refine obe_val (by rfl) ?_ ?_
    · clear k8_b3_0 g8_b3_0 k8_b3_1 g8_b3_1 k8_b4_0 g8_b4_0 k8_b4_1 g8_b4_1 k8_b5_0 g8_b5_0 k8_b5_1 g8_b5_1 k8_g9_0 g8_g9_0 k8_g9_1 g8_g9_1 k8_g10_0 g8_g10_0 k8_g10_1 g8_g10_1 k8_g11_0 g8_g11_0 k8_g11_1 g8_g11_1 B8 z8; intro f hf; have u117 : f 117 = (.bool true) := (by rw [← hf]; rfl); clear hf; rintro w' ⟨h0, h1, h2, h3, h4, h5, h6, h7, h8, h9, h10, h11, h12, h13, h14, h15, h16, h17, h18, h19, h20, h21, h22, h23⟩; go_simp; try exact IntWalk.i64_in _ (by omega)
    refine obe_val (by rfl) ?_ ?_
    · clear k8_b3_0 g8_b3_0 k8_b3_1 g8_b3_1 k8_b4_0 g8_b4_0 k8_b4_1 g8_b4_1 k8_b5_0 g8_b5_0 k8_b5_1 g8_b5_1 k8_g9_0 g8_g9_0 k8_g9_1 g8_g9_1 k8_g10_0 g8_g10_0 k8_g10_1 g8_g10_1 k8_g11_0 g8_g11_0 k8_g11_1 g8_g11_1 B8 z8; intro f hf; have u11 : f 11 = (.pointer (some ⟨w7.heap.size, 0, none⟩)) := (by rw [← hf]; rfl); clear hf; rintro w' ⟨h0, h1, h2, h3, h4, h5, h6, h7, h8, h9, h10, h11, h12, h13, h14, h15, h16, h17, h18, h19, h20, h21, h22, h23⟩; go_simp; try exact IntWalk.i64_in _ (by omega)
    refine obe_val (by rfl) ?_ ?_
    · clear k8_b3_0 g8_b3_0 k8_b3_1 g8_b3_1 k8_b4_0 g8_b4_0 k8_b4_1 g8_b4_1 k8_b5_0 g8_b5_0 k8_b5_1 g8_b5_1 k8_g9_0 g8_g9_0 k8_g9_1 g8_g9_1 k8_g10_0 g8_g10_0 k8_g10_1 g8_g10_1 k8_g11_0 g8_g11_0 k8_g11_1 g8_g11_1 B8 z8; intro f hf; have u119 : f 119 = (.pointer (some ⟨w7.heap.size, 0, none⟩)) := (by rw [← hf]; rfl); clear hf; rintro w' ⟨h0, h1, h2, h3, h4, h5, h6, h7, h8, h9, h10, h11, h12, h13, h14, h15, h16, h17, h18, h19, h20, h21, h22, h23⟩; go_simp; try exact IntWalk.i64_in _ (by omega)
    refine obe_val (by rfl) ?_ ?_
    · clear k8_b3_0 g8_b3_0 k8_b3_1 g8_b3_1 k8_b4_0 g8_b4_0 k8_b4_1 g8_b4_1 k8_b5_0 g8_b5_0 k8_b5_1 g8_b5_1 k8_g9_0 g8_g9_0 k8_g9_1 g8_g9_1 k8_g10_0 g8_g10_0 k8_g10_1 g8_g10_1 k8_g11_0 g8_g11_0 k8_g11_1 g8_g11_1 B8 z8; intro f hf; have u11 : f 11 = (.pointer (some ⟨w7.heap.size, 0, none⟩)) := (by rw [← hf]; rfl); clear hf; rintro w' ⟨h0, h1, h2, h3, h4, h5, h6, h7, h8, h9, h10, h11, h12, h13, h14, h15, h16, h17, h18, h19, h20, h21, h22, h23⟩; go_simp; try exact IntWalk.i64_in _ (by omega)
    refine obe_val (by rfl) ?_ ?_
    · clear k8_b3_0 g8_b3_0 k8_b3_1 g8_b3_1 k8_b4_0 g8_b4_0 k8_b4_1 g8_b4_1 k8_b5_0 g8_b5_0 k8_b5_1 g8_b5_1 k8_g9_0 g8_g9_0 k8_g9_1 g8_g9_1 k8_g10_0 g8_g10_0 k8_g10_1 g8_g10_1 k8_g11_0 g8_g11_0 k8_g11_1 g8_g11_1 B8 z8; intro f hf; have u121 : f 121 = (.pointer (some ⟨w7.heap.size, 0, none⟩)) := (by rw [← hf]; rfl); clear hf; rintro w' ⟨h0, h1, h2, h3, h4, h5, h6, h7, h8, h9, h10, h11, h12, h13, h14, h15, h16, h17, h18, h19, h20, h21, h22, h23⟩; go_simp; try exact IntWalk.i64_in _ (by omega)
    refine obe_val (by rfl) ?_ ?_
    · clear k8_b3_0 g8_b3_0 k8_b3_1 g8_b3_1 k8_b4_0 g8_b4_0 k8_b4_1 g8_b4_1 k8_b5_0 g8_b5_0 k8_b5_1 g8_b5_1 k8_g9_0 g8_g9_0 k8_g9_1 g8_g9_1 k8_g10_0 g8_g10_0 k8_g10_1 g8_g10_1 k8_g11_0 g8_g11_0 k8_g11_1 g8_g11_1 B8 z8; intro f hf; have u122 : f 122 = (.int .i64 ox) := (by rw [← hf]; rfl); clear hf; rintro w' ⟨h0, h1, h2, h3, h4, h5, h6, h7, h8, h9, h10, h11, h12, h13, h14, h15, h16, h17, h18, h19, h20, h21, h22, h23⟩; go_simp; try exact IntWalk.i64_in _ (by omega)
    refine obe_val (by rfl) ?_ ?_
    · clear k8_b3_0 g8_b3_0 k8_b3_1 g8_b3_1 k8_b4_0 g8_b4_0 k8_b4_1 g8_b4_1 k8_b5_0 g8_b5_0 k8_b5_1 g8_b5_1 k8_g9_0 g8_g9_0 k8_g9_1 g8_g9_1 k8_g10_0 g8_g10_0 k8_g10_1 g8_g10_1 k8_g11_0 g8_g11_0 k8_g11_1 g8_g11_1 B8 z8; intro f hf; have u120 : f 120 = (.int .i64 ox) := (by rw [← hf]; rfl); have u123 : f 123 = (.int .i64 (-ox)) := (by rw [← hf]; rfl); clear hf; rintro w' ⟨h0, h1, h2, h3, h4, h5, h6, h7, h8, h9, h10, h11, h12, h13, h14, h15, h16, h17, h18, h19, h20, h21, h22, h23⟩; go_simp; try exact IntWalk.i64_in _ (by omega)
    refine obe_val (by rfl) ?_ ?_
    · clear k8_b3_0 g8_b3_0 k8_b3_1 g8_b3_1 k8_b4_0 g8_b4_0 k8_b4_1 g8_b4_1 k8_b5_0 g8_b5_0 k8_b5_1 g8_b5_1 k8_g9_0 g8_g9_0 k8_g9_1 g8_g9_1 k8_g10_0 g8_g10_0 k8_g10_1 g8_g10_1 k8_g11_0 g8_g11_0 k8_g11_1 g8_g11_1 B8 z8; intro f hf; have u124 : f 124 = (.int .i64 m7) := (by rw [← hf]; rfl); clear hf; rintro w' ⟨h0, h1, h2, h3, h4, h5, h6, h7, h8, h9, h10, h11, h12, h13, h14, h15, h16, h17, h18, h19, h20, h21, h22, h23⟩; go_simp; try exact IntWalk.i64_in _ (by omega)
    refine obe_val (by rfl) ?_ ?_
    · clear k8_b3_0 g8_b3_0 k8_b3_1 g8_b3_1 k8_b4_0 g8_b4_0 k8_b4_1 g8_b4_1 k8_b5_0 g8_b5_0 k8_b5_1 g8_b5_1 k8_g9_0 g8_g9_0 k8_g9_1 g8_g9_1 k8_g10_0 g8_g10_0 k8_g10_1 g8_g10_1 k8_g11_0 g8_g11_0 k8_g11_1 g8_g11_1 B8 z8; intro f hf; have u118 : f 118 = (.bool true) := (by rw [← hf]; rfl); have u125 : f 125 = (.bool true) := (by rw [← hf]; rfl); clear hf; rintro w' ⟨h0, h1, h2, h3, h4, h5, h6, h7, h8, h9, h10, h11, h12, h13, h14, h15, h16, h17, h18, h19, h20, h21, h22, h23⟩; go_simp; try exact IntWalk.i64_in _ (by omega)
    refine obe_val (by rfl) ?_ ?_
    · clear k8_b3_0 g8_b3_0 k8_b3_1 g8_b3_1 k8_b4_0 g8_b4_0 k8_b4_1 g8_b4_1 k8_b5_0 g8_b5_0 k8_b5_1 g8_b5_1 k8_g9_0 g8_g9_0 k8_g9_1 g8_g9_1 k8_g10_0 g8_g10_0 k8_g10_1 g8_g10_1 k8_g11_0 g8_g11_0 k8_g11_1 g8_g11_1 B8 z8; intro f hf; have u126 : f 126 = (.bool true) := (by rw [← hf]; rfl); clear hf; rintro w' ⟨h0, h1, h2, h3, h4, h5, h6, h7, h8, h9, h10, h11, h12, h13, h14, h15, h16, h17, h18, h19, h20, h21, h22, h23⟩; go_simp; try exact IntWalk.i64_in _ (by omega)
    refine obe_val (by rfl) ?_ ?_
    · clear k8_b3_0 g8_b3_0 k8_b3_1 g8_b3_1 k8_b4_0 g8_b4_0 k8_b4_1 g8_b4_1 k8_b5_0 g8_b5_0 k8_b5_1 g8_b5_1 k8_g9_0 g8_g9_0 k8_g9_1 g8_g9_1 k8_g10_0 g8_g10_0 k8_g10_1 g8_g10_1 k8_g11_0 g8_g11_0 k8_g11_1 g8_g11_1 B8 z8; intro f hf; have u11 : f 11 = (.pointer (some ⟨w7.heap.size, 0, none⟩)) := (by rw [← hf]; rfl); clear hf; rintro w' ⟨h0, h1, h2, h3, h4, h5, h6, h7, h8, h9, h10, h11, h12, h13, h14, h15, h16, h17, h18, h19, h20, h21, h22, h23⟩; go_simp; try exact IntWalk.i64_in _ (by omega)
    refine obe_val (by rfl) ?_ ?_
    · clear k8_b3_0 g8_b3_0 k8_b3_1 g8_b3_1 k8_b4_0 g8_b4_0 k8_b4_1 g8_b4_1 k8_b5_0 g8_b5_0 k8_b5_1 g8_b5_1 k8_g9_0 g8_g9_0 k8_g9_1 g8_g9_1 k8_g10_0 g8_g10_0 k8_g10_1 g8_g10_1 k8_g11_0 g8_g11_0 k8_g11_1 g8_g11_1 B8 z8; intro f hf; have u128 : f 128 = (.pointer (some ⟨w7.heap.size, 1, none⟩)) := (by rw [← hf]; rfl); clear hf; rintro w' ⟨h0, h1, h2, h3, h4, h5, h6, h7, h8, h9, h10, h11, h12, h13, h14, h15, h16, h17, h18, h19, h20, h21, h22, h23⟩; go_simp; try exact IntWalk.i64_in _ (by omega)
    refine obe_val (by rfl) ?_ ?_
    · clear k8_b3_0 g8_b3_0 k8_b3_1 g8_b3_1 k8_b4_0 g8_b4_0 k8_b4_1 g8_b4_1 k8_b5_0 g8_b5_0 k8_b5_1 g8_b5_1 k8_g9_0 g8_g9_0 k8_g9_1 g8_g9_1 k8_g10_0 g8_g10_0 k8_g10_1 g8_g10_1 k8_g11_0 g8_g11_0 k8_g11_1 g8_g11_1 B8 z8; intro f hf; have u11 : f 11 = (.pointer (some ⟨w7.heap.size, 0, none⟩)) := (by rw [← hf]; rfl); clear hf; rintro w' ⟨h0, h1, h2, h3, h4, h5, h6, h7, h8, h9, h10, h11, h12, h13, h14, h15, h16, h17, h18, h19, h20, h21, h22, h23⟩; go_simp; try exact IntWalk.i64_in _ (by omega)
    refine obe_val (by rfl) ?_ ?_
    · clear k8_b3_0 g8_b3_0 k8_b3_1 g8_b3_1 k8_b4_0 g8_b4_0 k8_b4_1 g8_b4_1 k8_b5_0 g8_b5_0 k8_b5_1 g8_b5_1 k8_g9_0 g8_g9_0 k8_g9_1 g8_g9_1 k8_g10_0 g8_g10_0 k8_g10_1 g8_g10_1 k8_g11_0 g8_g11_0 k8_g11_1 g8_g11_1 B8 z8; intro f hf; have u130 : f 130 = (.pointer (some ⟨w7.heap.size, 1, none⟩)) := (by rw [← hf]; rfl); clear hf; rintro w' ⟨h0, h1, h2, h3, h4, h5, h6, h7, h8, h9, h10, h11, h12, h13, h14, h15, h16, h17, h18, h19, h20, h21, h22, h23⟩; go_simp; try exact IntWalk.i64_in _ (by omega)
    refine obe_val (by rfl) ?_ ?_
    · clear k8_b3_0 g8_b3_0 k8_b3_1 g8_b3_1 k8_b4_0 g8_b4_0 k8_b4_1 g8_b4_1 k8_b5_0 g8_b5_0 k8_b5_1 g8_b5_1 k8_g9_0 g8_g9_0 k8_g9_1 g8_g9_1 k8_g10_0 g8_g10_0 k8_g10_1 g8_g10_1 k8_g11_0 g8_g11_0 k8_g11_1 g8_g11_1 B8 z8; intro f hf; have u131 : f 131 = (.int .i64 oy) := (by rw [← hf]; rfl); clear hf; rintro w' ⟨h0, h1, h2, h3, h4, h5, h6, h7, h8, h9, h10, h11, h12, h13, h14, h15, h16, h17, h18, h19, h20, h21, h22, h23⟩; go_simp; try exact IntWalk.i64_in _ (by omega)
    refine obe_val (by rfl) ?_ ?_
    · clear k8_b3_0 g8_b3_0 k8_b3_1 g8_b3_1 k8_b4_0 g8_b4_0 k8_b4_1 g8_b4_1 k8_b5_0 g8_b5_0 k8_b5_1 g8_b5_1 k8_g9_0 g8_g9_0 k8_g9_1 g8_g9_1 k8_g10_0 g8_g10_0 k8_g10_1 g8_g10_1 k8_g11_0 g8_g11_0 k8_g11_1 g8_g11_1 B8 z8; intro f hf; have u129 : f 129 = (.int .i64 oy) := (by rw [← hf]; rfl); have u132 : f 132 = (.int .i64 (-oy)) := (by rw [← hf]; rfl); clear hf; rintro w' ⟨h0, h1, h2, h3, h4, h5, h6, h7, h8, h9, h10, h11, h12, h13, h14, h15, h16, h17, h18, h19, h20, h21, h22, h23⟩; go_simp; try exact IntWalk.i64_in _ (by omega)
    refine obe_val (by rfl) ?_ ?_
    · clear k8_b3_0 g8_b3_0 k8_b3_1 g8_b3_1 k8_b4_0 g8_b4_0 k8_b4_1 g8_b4_1 k8_b5_0 g8_b5_0 k8_b5_1 g8_b5_1 k8_g9_0 g8_g9_0 k8_g9_1 g8_g9_1 k8_g10_0 g8_g10_0 k8_g10_1 g8_g10_1 k8_g11_0 g8_g11_0 k8_g11_1 g8_g11_1 B8 z8; intro f hf; have u133 : f 133 = (.int .i64 m8) := (by rw [← hf]; rfl); clear hf; rintro w' ⟨h0, h1, h2, h3, h4, h5, h6, h7, h8, h9, h10, h11, h12, h13, h14, h15, h16, h17, h18, h19, h20, h21, h22, h23⟩; go_simp; try exact IntWalk.i64_in _ (by omega)
    refine obe_val (by rfl) ?_ ?_
    · clear k8_b3_0 g8_b3_0 k8_b3_1 g8_b3_1 k8_b4_0 g8_b4_0 k8_b4_1 g8_b4_1 k8_b5_0 g8_b5_0 k8_b5_1 g8_b5_1 k8_g9_0 g8_g9_0 k8_g9_1 g8_g9_1 k8_g10_0 g8_g10_0 k8_g10_1 g8_g10_1 k8_g11_0 g8_g11_0 k8_g11_1 g8_g11_1 B8 z8; intro f hf; have u127 : f 127 = (.bool true) := (by rw [← hf]; rfl); have u134 : f 134 = (.bool true) := (by rw [← hf]; rfl); clear hf; rintro w' ⟨h0, h1, h2, h3, h4, h5, h6, h7, h8, h9, h10, h11, h12, h13, h14, h15, h16, h17, h18, h19, h20, h21, h22, h23⟩; go_simp; try exact IntWalk.i64_in _ (by omega)
    refine obe_val (by rfl) ?_ ?_
    · clear k8_b3_0 g8_b3_0 k8_b3_1 g8_b3_1 k8_b4_0 g8_b4_0 k8_b4_1 g8_b4_1 k8_b5_0 g8_b5_0 k8_b5_1 g8_b5_1 k8_g9_0 g8_g9_0 k8_g9_1 g8_g9_1 k8_g10_0 g8_g10_0 k8_g10_1 g8_g10_1 k8_g11_0 g8_g11_0 k8_g11_1 g8_g11_1 B8 z8; intro f hf; have u135 : f 135 = (.bool true) := (by rw [← hf]; rfl); clear hf; rintro w' ⟨h0, h1, h2, h3, h4, h5, h6, h7, h8, h9, h10, h11, h12, h13, h14, h15, h16, h17, h18, h19, h20, h21, h22, h23⟩; go_simp; try exact IntWalk.i64_in _ (by omega)
    refine obe_call (by rfl) ?_ ?_ ?_
    · clear k8_b3_0 g8_b3_0 k8_b3_1 g8_b3_1 k8_b4_0 g8_b4_0 k8_b4_1 g8_b4_1 k8_b5_0 g8_b5_0 k8_b5_1 g8_b5_1 k8_g9_0 g8_g9_0 k8_g9_1 g8_g9_1 k8_g10_0 g8_g10_0 k8_g10_1 g8_g10_1 k8_g11_0 g8_g11_0 k8_g11_1 g8_g11_1 B8 z8; intro f hf; clear hf; intro w' _; simp only [execOp, resolve, invoke, rhoF_tmp, rhoF_func, rhoF_const, List.map_toArray, List.map_cons, List.map_nil]; go_simp
    · clear k8_b3_0 g8_b3_0 k8_b3_1 g8_b3_1 k8_b4_0 g8_b4_0 k8_b4_1 g8_b4_1 k8_b5_0 g8_b5_0 k8_b5_1 g8_b5_1 k8_g9_0 g8_g9_0 k8_g9_1 g8_g9_1 k8_g10_0 g8_g10_0 k8_g10_1 g8_g10_1 k8_g11_0 g8_g11_0 k8_g11_1 g8_g11_1 B8 z8; rintro w' ⟨h0, h1, h2, h3, h4, h5, h6, h7, h8, h9, h10, h11, h12, h13, h14, h15, h16, h17, h18, h19, h20, h21, h22, h23⟩; exact example_any _
    refine obe_val (by rfl) ?_ ?_
    · clear k8_b3_0 g8_b3_0 k8_b3_1 g8_b3_1 k8_b4_0 g8_b4_0 k8_b4_1 g8_b4_1 k8_b5_0 g8_b5_0 k8_b5_1 g8_b5_1 k8_g9_0 g8_g9_0 k8_g9_1 g8_g9_1 k8_g10_0 g8_g10_0 k8_g10_1 g8_g10_1 k8_g11_0 g8_g11_0 k8_g11_1 g8_g11_1 B8 z8; intro f hf; have u136 : f 136 = (.bool true) := (by rw [← hf]; rfl); have u137 : f 137 = (.bool true) := (by rw [← hf]; rfl); clear hf; rintro w' ⟨h0, h1, h2, h3, h4, h5, h6, h7, h8, h9, h10, h11, h12, h13, h14, h15, h16, h17, h18, h19, h20, h21, h22, h23⟩; go_simp; try exact IntWalk.i64_in _ (by omega)
    refine obe_val (by rfl) ?_ ?_
    · clear k8_b3_0 g8_b3_0 k8_b3_1 g8_b3_1 k8_b4_0 g8_b4_0 k8_b4_1 g8_b4_1 k8_b5_0 g8_b5_0 k8_b5_1 g8_b5_1 k8_g9_0 g8_g9_0 k8_g9_1 g8_g9_1 k8_g10_0 g8_g10_0 k8_g10_1 g8_g10_1 k8_g11_0 g8_g11_0 k8_g11_1 g8_g11_1 B8 z8; intro f hf; have u138 : f 138 = (.bool true) := (by rw [← hf]; rfl); clear hf; rintro w' ⟨h0, h1, h2, h3, h4, h5, h6, h7, h8, h9, h10, h11, h12, h13, h14, h15, h16, h17, h18, h19, h20, h21, h22, h23⟩; go_simp; try exact IntWalk.i64_in _ (by omega)
    refine obe_nil ?_
    rintro w9 ⟨h0, h1, h2, h3, h4, h5, h6, h7, h8, h9, h10, h11, h12, h13, h14, h15, h16, h17, h18, h19, h20, h21, h22, h23⟩ hb9 hF
    (try simp only [List.nil_append, List.append_nil, List.cons_append] at hF)
    simp only [puts, putD, Act.put, List.setIfInBounds_toArray, List.set_cons_zero, List.set_cons_succ]
    clear hF
    have k9_b3_0 := bcs hb9 k8_b3_0
    have g9_b3_0 := bfs hb9 k8_b3_0 g8_b3_0
    have k9_b3_1 := bcs hb9 k8_b3_1
    have g9_b3_1 := bfs hb9 k8_b3_1 g8_b3_1
    have k9_b4_0 := bcs hb9 k8_b4_0
    have g9_b4_0 := bfs hb9 k8_b4_0 g8_b4_0
    have k9_b4_1 := bcs hb9 k8_b4_1
    have g9_b4_1 := bfs hb9 k8_b4_1 g8_b4_1
    have k9_b5_0 := bcs hb9 k8_b5_0
    have g9_b5_0 := bfs hb9 k8_b5_0 g8_b5_0
    have k9_b5_1 := bcs hb9 k8_b5_1
    have g9_b5_1 := bfs hb9 k8_b5_1 g8_b5_1
    have k9_g9_0 := bcs hb9 k8_g9_0
    have g9_g9_0 := bfs hb9 k8_g9_0 g8_g9_0
    have k9_g9_1 := bcs hb9 k8_g9_1
    have g9_g9_1 := bfs hb9 k8_g9_1 g8_g9_1
    have k9_g10_0 := bcs hb9 k8_g10_0
    have g9_g10_0 := bfs hb9 k8_g10_0 g8_g10_0
    have k9_g10_1 := bcs hb9 k8_g10_1
    have g9_g10_1 := bfs hb9 k8_g10_1 g8_g10_1
    have k9_g11_0 := bcs hb9 k8_g11_0
    have g9_g11_0 := bfs hb9 k8_g11_0 g8_g11_0
    have k9_g11_1 := bcs hb9 k8_g11_1
    have g9_g11_1 := bfs hb9 k8_g11_1 g8_g11_1
    clear h0 h1 h2 h3 h4 h5 h6 h7 h8 h9 h10 h11 h12 h13 h14 h15 h16 h17 h18 h19 h20 h21 h22 h23
    have B9 := bel_step B8 hb9
    have z9 := Nat.le_trans z8 hb9.size
    clear hb9
    (try clear B8)
    (try clear z8)
    (try clear k8_b3_0)
    (try clear g8_b3_0)
    (try clear k8_b3_1)
    (try clear g8_b3_1)
    (try clear k8_b4_0)
    (try clear g8_b4_0)
    (try clear k8_b4_1)
    (try clear g8_b4_1)
    (try clear k8_b5_0)
    (try clear g8_b5_0)
    (try clear k8_b5_1)
    (try clear g8_b5_1)
    (try clear k8_g9_0)
    (try clear g8_g9_0)
    (try clear k8_g9_1)
    (try clear g8_g9_1)
    (try clear k8_g10_0)
    (try clear g8_g10_0)
    (try clear k8_g10_1)
    (try clear g8_g10_1)
    (try clear k8_g11_0)
    (try clear g8_g11_0)
    (try clear k8_g11_1)
    (try clear g8_g11_1)
    (try clear q8_b3)
    (try clear x8_b3)
    (try clear y8_b3)
    (try clear q8_b4)
    (try clear x8_b4)
    (try clear y8_b4)
    (try clear q8_b5)
    (try clear x8_b5)
    (try clear y8_b5)
    (try clear q8_g9)
    (try clear x8_g9)
    (try clear y8_g9)
    (try clear q8_g10)
    (try clear x8_g10)
    (try clear y8_g10)
    (try clear q8_g11)
    (try clear x8_g11)
    (try clear y8_g11)
    have q9_b3 : w.heap.size < w9.heap.size := qlt k9_b3_0
    have x9_b3 : ¬ w.heap.size = w9.heap.size := qne k9_b3_0
    have y9_b3 : ¬ w9.heap.size = w.heap.size := fun h => qne k9_b3_0 h.symm
    have q9_b4 : w.heap.size + 1 < w9.heap.size := qlt k9_b4_0
    have x9_b4 : ¬ w.heap.size + 1 = w9.heap.size := qne k9_b4_0
    have y9_b4 : ¬ w9.heap.size = w.heap.size + 1 := fun h => qne k9_b4_0 h.symm
    have q9_b5 : w.heap.size + 1 + 1 < w9.heap.size := qlt k9_b5_0
    have x9_b5 : ¬ w.heap.size + 1 + 1 = w9.heap.size := qne k9_b5_0
    have y9_b5 : ¬ w9.heap.size = w.heap.size + 1 + 1 := fun h => qne k9_b5_0 h.symm
    have q9_g9 : w5.heap.size < w9.heap.size := qlt k9_g9_0
    have x9_g9 : ¬ w5.heap.size = w9.heap.size := qne k9_g9_0
    have y9_g9 : ¬ w9.heap.size = w5.heap.size := fun h => qne k9_g9_0 h.symm
    have q9_g10 : w6.heap.size < w9.heap.size := qlt k9_g10_0
    have x9_g10 : ¬ w6.heap.size = w9.heap.size := qne k9_g10_0
    have y9_g10 : ¬ w9.heap.size = w6.heap.size := fun h => qne k9_g10_0 h.symm
    have q9_g11 : w7.heap.size < w9.heap.size := qlt k9_g11_0
    have x9_g11 : ¬ w7.heap.size = w9.heap.size := qne k9_g11_0
    have y9_g11 : ¬ w9.heap.size = w7.heap.size := fun h => qne k9_g11_0 h.symm
    unfold wpList
    go_wp2
    go_ret
    refine ⟨rfl, ?_⟩
    repeat (first | with_reducible exact Below.refl _ _ | with_reducible exact B9 | with_reducible apply below_drewN | with_reducible apply Below.drew | (with_reducible refine Below.alloc ?_ (by first | (simp; done) | (simp; omega) | omega) _) | (with_reducible refine Below.setCell ?_ (by first | (simp; done) | (simp; omega) | omega) _))
end Go.Proofs.Ytahdnlebokmajaa
