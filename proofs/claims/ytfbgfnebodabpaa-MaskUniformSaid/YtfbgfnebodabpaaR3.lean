
import Derived.Test.YtfbgfnebodabpaaR2
import Derived.WalkKit
import Derived.WalkSpells
import Derived.WalkLawsBesides
import Derived.Lib.Hide
import Derived.Below
import Derived.Deep.QuietTactic
import Derived.BigQuiet
import Derived.Deep.RegionHeld3
import Derived.Deep.DrawnRows
import Derived.Deep.DeepFit
import Derived.IntWalk
namespace Go.Proofs.Ytfbgfnebodabpaa
open Go.RowKit
set_option linter.unusedVariables false
set_option linter.unusedSimpArgs false
attribute [local go_sem ↓] Go.wp_at_zero Go.wp_at_succ
attribute [local go_sem] rhoF_tmp rhoF_const rhoF_global rhoF_func

set_option maxHeartbeats 1000000 in
theorem area_any (a b c d : Int) (w : World) :
    Calls Try.prog 47 #[.agg #[.int .i64 a, .int .i64 b, .int .i64 c, .int .i64 d]] w fun e w' => e = .returned (.int .i64 ((cn (eR a b c d) c - cn (eR a b c d) a) * (cn (eR a b c d) d - cn (eR a b c d) b))) ∧ Below w.heap.size w w' := by
  have q1 := fun w => canon_any a b c d w
  obtain ⟨⟨a0, a1⟩, ⟨b0, b1⟩, ⟨c0, c1'⟩, d0, d1⟩ := cn_bd a b c d
  obtain ⟨A, eA⟩ : ∃ x, cn (eR a b c d) a = x := ⟨_, rfl⟩
  obtain ⟨B, eB⟩ : ∃ x, cn (eR a b c d) b = x := ⟨_, rfl⟩
  obtain ⟨C, eC⟩ : ∃ x, cn (eR a b c d) c = x := ⟨_, rfl⟩
  obtain ⟨D, eD⟩ : ∃ x, cn (eR a b c d) d = x := ⟨_, rfl⟩
  rw [eA, eB, eC, eD] at q1 ⊢
  rw [eA] at a0 a1
  rw [eB] at b0 b1
  rw [eC] at c0 c1'
  rw [eD] at d0 d1
  clear eA eB eC eD
  have mm := mul_bd (C - A) (D - B) 8192 8192 (by omega) (by omega) (by omega) (by omega)
  go_enter Try.func47, Try.ntmps47
  go_wp2_with (first | (go_at_call 48; (with_reducible refine (q1 _).mono ?_); rintro e w1 ⟨rfl, hb1⟩; have k1_b1_0 : w1.cell? ⟨w.heap.size, 0, none⟩ = some (.int .i64 a) := bcs hb1 (by go_simp); have g1_b1_0 : w1.frozen? ⟨w.heap.size, 0, none⟩ = false := bfs hb1 (v := .int .i64 a) (by go_simp) (by go_simp); have k1_b1_1 : w1.cell? ⟨w.heap.size, 1, none⟩ = some (.int .i64 b) := bcs hb1 (by go_simp); have g1_b1_1 : w1.frozen? ⟨w.heap.size, 1, none⟩ = false := bfs hb1 (v := .int .i64 b) (by go_simp) (by go_simp); have k1_b1_2 : w1.cell? ⟨w.heap.size, 2, none⟩ = some (.int .i64 c) := bcs hb1 (by go_simp); have g1_b1_2 : w1.frozen? ⟨w.heap.size, 2, none⟩ = false := bfs hb1 (v := .int .i64 c) (by go_simp) (by go_simp); have k1_b1_3 : w1.cell? ⟨w.heap.size, 3, none⟩ = some (.int .i64 d) := bcs hb1 (by go_simp); have g1_b1_3 : w1.frozen? ⟨w.heap.size, 3, none⟩ = false := bfs hb1 (v := .int .i64 d) (by go_simp) (by go_simp); have q1_b1 : w.heap.size < w1.heap.size := qlt k1_b1_0; have x1_b1 : ¬ w.heap.size = w1.heap.size := qne k1_b1_0; have y1_b1 : ¬ w1.heap.size = w.heap.size := fun h => qne k1_b1_0 h.symm; have B1 : Below w.heap.size w w1 := bel_step (by repeat (first | with_reducible exact Below.refl _ _ | fail | with_reducible apply below_drewN | with_reducible apply Below.drew | (with_reducible refine Below.alloc ?_ (by first | (simp; done) | (simp; omega) | omega) _) | (with_reducible refine Below.setCell ?_ (by first | (simp; done) | (simp; omega) | omega) _))) hb1; have z1 : w.heap.size + 1 ≤ w1.heap.size := Nat.le_trans (by first | with_reducible assumption | (simp; done) | (simp; omega)) hb1.size; clear hb1))
  go_ret
  refine ⟨rfl, ?_⟩
  repeat (first | with_reducible exact Below.refl _ _ | with_reducible exact B1 | with_reducible apply below_drewN | with_reducible apply Below.drew | (with_reducible refine Below.alloc ?_ (by first | (simp; done) | (simp; omega) | omega) _) | (with_reducible refine Below.setCell ?_ (by first | (simp; done) | (simp; omega) | omega) _))

set_option maxHeartbeats 1000000 in
theorem rarea_any (a b c d : Int) (w : World) :
    Calls Try.prog 30 #[.agg #[.int .i64 a, .int .i64 b, .int .i64 c, .int .i64 d]] w fun e w' => e = .returned (.int .i64 ((cn (eR a b c d) c - cn (eR a b c d) a) * (cn (eR a b c d) d - cn (eR a b c d) b))) ∧ Below w.heap.size w w' := by
  have q1 := fun w => rcanon_any a b c d w
  obtain ⟨⟨a0, a1⟩, ⟨b0, b1⟩, ⟨c0, c1'⟩, d0, d1⟩ := cn_bd a b c d
  obtain ⟨A, eA⟩ : ∃ x, cn (eR a b c d) a = x := ⟨_, rfl⟩
  obtain ⟨B, eB⟩ : ∃ x, cn (eR a b c d) b = x := ⟨_, rfl⟩
  obtain ⟨C, eC⟩ : ∃ x, cn (eR a b c d) c = x := ⟨_, rfl⟩
  obtain ⟨D, eD⟩ : ∃ x, cn (eR a b c d) d = x := ⟨_, rfl⟩
  rw [eA, eB, eC, eD] at q1 ⊢
  rw [eA] at a0 a1
  rw [eB] at b0 b1
  rw [eC] at c0 c1'
  rw [eD] at d0 d1
  clear eA eB eC eD
  have mm := mul_bd (C - A) (D - B) 8192 8192 (by omega) (by omega) (by omega) (by omega)
  go_enter Try.func30, Try.ntmps30
  go_wp2_with (first | (go_at_call 49; (with_reducible refine (q1 _).mono ?_); rintro e w1 ⟨rfl, hb1⟩; have k1_b1_0 : w1.cell? ⟨w.heap.size, 0, none⟩ = some (.int .i64 a) := bcs hb1 (by go_simp); have g1_b1_0 : w1.frozen? ⟨w.heap.size, 0, none⟩ = false := bfs hb1 (v := .int .i64 a) (by go_simp) (by go_simp); have k1_b1_1 : w1.cell? ⟨w.heap.size, 1, none⟩ = some (.int .i64 b) := bcs hb1 (by go_simp); have g1_b1_1 : w1.frozen? ⟨w.heap.size, 1, none⟩ = false := bfs hb1 (v := .int .i64 b) (by go_simp) (by go_simp); have k1_b1_2 : w1.cell? ⟨w.heap.size, 2, none⟩ = some (.int .i64 c) := bcs hb1 (by go_simp); have g1_b1_2 : w1.frozen? ⟨w.heap.size, 2, none⟩ = false := bfs hb1 (v := .int .i64 c) (by go_simp) (by go_simp); have k1_b1_3 : w1.cell? ⟨w.heap.size, 3, none⟩ = some (.int .i64 d) := bcs hb1 (by go_simp); have g1_b1_3 : w1.frozen? ⟨w.heap.size, 3, none⟩ = false := bfs hb1 (v := .int .i64 d) (by go_simp) (by go_simp); have q1_b1 : w.heap.size < w1.heap.size := qlt k1_b1_0; have x1_b1 : ¬ w.heap.size = w1.heap.size := qne k1_b1_0; have y1_b1 : ¬ w1.heap.size = w.heap.size := fun h => qne k1_b1_0 h.symm; have B1 : Below w.heap.size w w1 := bel_step (by repeat (first | with_reducible exact Below.refl _ _ | fail | with_reducible apply below_drewN | with_reducible apply Below.drew | (with_reducible refine Below.alloc ?_ (by first | (simp; done) | (simp; omega) | omega) _) | (with_reducible refine Below.setCell ?_ (by first | (simp; done) | (simp; omega) | omega) _))) hb1; have z1 : w.heap.size + 1 ≤ w1.heap.size := Nat.le_trans (by first | with_reducible assumption | (simp; done) | (simp; omega)) hb1.size; clear hb1))
  go_ret
  refine ⟨rfl, ?_⟩
  repeat (first | with_reducible exact Below.refl _ _ | with_reducible exact B1 | with_reducible apply below_drewN | with_reducible apply Below.drew | (with_reducible refine Below.alloc ?_ (by first | (simp; done) | (simp; omega) | omega) _) | (with_reducible refine Below.setCell ?_ (by first | (simp; done) | (simp; omega) | omega) _))

set_option maxHeartbeats 2000000 in
theorem contains_any (a b c d x y : Int) (w : World) :
    Calls Try.prog 85 #[.agg #[.int .i64 a, .int .i64 b, .int .i64 c, .int .i64 d], .int .i64 x, .int .i64 y] w fun e w' => e = .returned (.bool (ctB a b c d x y)) ∧ Below w.heap.size w w' := by
  have q1 := fun w => empty_any a b c d w
  cases he : eR a b c d with
  | true =>
    rw [he] at q1
    rw [show ctB a b c d x y = false by simp [ctB, he]]
    go_enter Try.func85, Try.ntmps85
    go_wp2_with (first | (go_at_call 78; (with_reducible refine (q1 _).mono ?_); rintro e w1 ⟨rfl, hb1⟩; have k1_b3_0 : w1.cell? ⟨w.heap.size, 0, none⟩ = some (.int .i64 a) := bcs hb1 (by go_simp); have g1_b3_0 : w1.frozen? ⟨w.heap.size, 0, none⟩ = false := bfs hb1 (v := .int .i64 a) (by go_simp) (by go_simp); have k1_b3_1 : w1.cell? ⟨w.heap.size, 1, none⟩ = some (.int .i64 b) := bcs hb1 (by go_simp); have g1_b3_1 : w1.frozen? ⟨w.heap.size, 1, none⟩ = false := bfs hb1 (v := .int .i64 b) (by go_simp) (by go_simp); have k1_b3_2 : w1.cell? ⟨w.heap.size, 2, none⟩ = some (.int .i64 c) := bcs hb1 (by go_simp); have g1_b3_2 : w1.frozen? ⟨w.heap.size, 2, none⟩ = false := bfs hb1 (v := .int .i64 c) (by go_simp) (by go_simp); have k1_b3_3 : w1.cell? ⟨w.heap.size, 3, none⟩ = some (.int .i64 d) := bcs hb1 (by go_simp); have g1_b3_3 : w1.frozen? ⟨w.heap.size, 3, none⟩ = false := bfs hb1 (v := .int .i64 d) (by go_simp) (by go_simp); have q1_b3 : w.heap.size < w1.heap.size := qlt k1_b3_0; have x1_b3 : ¬ w.heap.size = w1.heap.size := qne k1_b3_0; have y1_b3 : ¬ w1.heap.size = w.heap.size := fun h => qne k1_b3_0 h.symm; have B1 : Below w.heap.size w w1 := bel_step (by repeat (first | with_reducible exact Below.refl _ _ | fail | with_reducible apply below_drewN | with_reducible apply Below.drew | (with_reducible refine Below.alloc ?_ (by first | (simp; done) | (simp; omega) | omega) _) | (with_reducible refine Below.setCell ?_ (by first | (simp; done) | (simp; omega) | omega) _))) hb1; have z1 : w.heap.size + 1 ≤ w1.heap.size := Nat.le_trans (by first | with_reducible assumption | (simp; done) | (simp; omega)) hb1.size; clear hb1))
    go_ret
    refine ⟨rfl, ?_⟩
    repeat (first | with_reducible exact Below.refl _ _ | with_reducible exact B1 | with_reducible apply below_drewN | with_reducible apply Below.drew | (with_reducible refine Below.alloc ?_ (by first | (simp; done) | (simp; omega) | omega) _) | (with_reducible refine Below.setCell ?_ (by first | (simp; done) | (simp; omega) | omega) _))
  | false =>
    rw [he] at q1
    by_cases h0 : a ≤ x
    case neg =>
      have dd := decide_eq_false h0
      rw [show ctB a b c d x y = false by unfold ctB; rw [dd]; simp]
      go_enter Try.func85, Try.ntmps85
      go_wp2_with (first | (go_at_call 78; (with_reducible refine (q1 _).mono ?_); rintro e w1 ⟨rfl, hb1⟩; have k1_b3_0 : w1.cell? ⟨w.heap.size, 0, none⟩ = some (.int .i64 a) := bcs hb1 (by go_simp); have g1_b3_0 : w1.frozen? ⟨w.heap.size, 0, none⟩ = false := bfs hb1 (v := .int .i64 a) (by go_simp) (by go_simp); have k1_b3_1 : w1.cell? ⟨w.heap.size, 1, none⟩ = some (.int .i64 b) := bcs hb1 (by go_simp); have g1_b3_1 : w1.frozen? ⟨w.heap.size, 1, none⟩ = false := bfs hb1 (v := .int .i64 b) (by go_simp) (by go_simp); have k1_b3_2 : w1.cell? ⟨w.heap.size, 2, none⟩ = some (.int .i64 c) := bcs hb1 (by go_simp); have g1_b3_2 : w1.frozen? ⟨w.heap.size, 2, none⟩ = false := bfs hb1 (v := .int .i64 c) (by go_simp) (by go_simp); have k1_b3_3 : w1.cell? ⟨w.heap.size, 3, none⟩ = some (.int .i64 d) := bcs hb1 (by go_simp); have g1_b3_3 : w1.frozen? ⟨w.heap.size, 3, none⟩ = false := bfs hb1 (v := .int .i64 d) (by go_simp) (by go_simp); have q1_b3 : w.heap.size < w1.heap.size := qlt k1_b3_0; have x1_b3 : ¬ w.heap.size = w1.heap.size := qne k1_b3_0; have y1_b3 : ¬ w1.heap.size = w.heap.size := fun h => qne k1_b3_0 h.symm; have B1 : Below w.heap.size w w1 := bel_step (by repeat (first | with_reducible exact Below.refl _ _ | fail | with_reducible apply below_drewN | with_reducible apply Below.drew | (with_reducible refine Below.alloc ?_ (by first | (simp; done) | (simp; omega) | omega) _) | (with_reducible refine Below.setCell ?_ (by first | (simp; done) | (simp; omega) | omega) _))) hb1; have z1 : w.heap.size + 1 ≤ w1.heap.size := Nat.le_trans (by first | with_reducible assumption | (simp; done) | (simp; omega)) hb1.size; clear hb1))
      go_ret
      refine ⟨rfl, ?_⟩
      repeat (first | with_reducible exact Below.refl _ _ | with_reducible exact B1 | with_reducible apply below_drewN | with_reducible apply Below.drew | (with_reducible refine Below.alloc ?_ (by first | (simp; done) | (simp; omega) | omega) _) | (with_reducible refine Below.setCell ?_ (by first | (simp; done) | (simp; omega) | omega) _))
    by_cases h1 : x < c
    case neg =>
      have dd := decide_eq_false h1
      rw [show ctB a b c d x y = false by unfold ctB; rw [dd]; simp]
      go_enter Try.func85, Try.ntmps85
      go_wp2_with (first | (go_at_call 78; (with_reducible refine (q1 _).mono ?_); rintro e w1 ⟨rfl, hb1⟩; have k1_b3_0 : w1.cell? ⟨w.heap.size, 0, none⟩ = some (.int .i64 a) := bcs hb1 (by go_simp); have g1_b3_0 : w1.frozen? ⟨w.heap.size, 0, none⟩ = false := bfs hb1 (v := .int .i64 a) (by go_simp) (by go_simp); have k1_b3_1 : w1.cell? ⟨w.heap.size, 1, none⟩ = some (.int .i64 b) := bcs hb1 (by go_simp); have g1_b3_1 : w1.frozen? ⟨w.heap.size, 1, none⟩ = false := bfs hb1 (v := .int .i64 b) (by go_simp) (by go_simp); have k1_b3_2 : w1.cell? ⟨w.heap.size, 2, none⟩ = some (.int .i64 c) := bcs hb1 (by go_simp); have g1_b3_2 : w1.frozen? ⟨w.heap.size, 2, none⟩ = false := bfs hb1 (v := .int .i64 c) (by go_simp) (by go_simp); have k1_b3_3 : w1.cell? ⟨w.heap.size, 3, none⟩ = some (.int .i64 d) := bcs hb1 (by go_simp); have g1_b3_3 : w1.frozen? ⟨w.heap.size, 3, none⟩ = false := bfs hb1 (v := .int .i64 d) (by go_simp) (by go_simp); have q1_b3 : w.heap.size < w1.heap.size := qlt k1_b3_0; have x1_b3 : ¬ w.heap.size = w1.heap.size := qne k1_b3_0; have y1_b3 : ¬ w1.heap.size = w.heap.size := fun h => qne k1_b3_0 h.symm; have B1 : Below w.heap.size w w1 := bel_step (by repeat (first | with_reducible exact Below.refl _ _ | fail | with_reducible apply below_drewN | with_reducible apply Below.drew | (with_reducible refine Below.alloc ?_ (by first | (simp; done) | (simp; omega) | omega) _) | (with_reducible refine Below.setCell ?_ (by first | (simp; done) | (simp; omega) | omega) _))) hb1; have z1 : w.heap.size + 1 ≤ w1.heap.size := Nat.le_trans (by first | with_reducible assumption | (simp; done) | (simp; omega)) hb1.size; clear hb1))
      go_ret
      refine ⟨rfl, ?_⟩
      repeat (first | with_reducible exact Below.refl _ _ | with_reducible exact B1 | with_reducible apply below_drewN | with_reducible apply Below.drew | (with_reducible refine Below.alloc ?_ (by first | (simp; done) | (simp; omega) | omega) _) | (with_reducible refine Below.setCell ?_ (by first | (simp; done) | (simp; omega) | omega) _))
    by_cases h2 : b ≤ y
    case neg =>
      have dd := decide_eq_false h2
      rw [show ctB a b c d x y = false by unfold ctB; rw [dd]; simp]
      go_enter Try.func85, Try.ntmps85
      go_wp2_with (first | (go_at_call 78; (with_reducible refine (q1 _).mono ?_); rintro e w1 ⟨rfl, hb1⟩; have k1_b3_0 : w1.cell? ⟨w.heap.size, 0, none⟩ = some (.int .i64 a) := bcs hb1 (by go_simp); have g1_b3_0 : w1.frozen? ⟨w.heap.size, 0, none⟩ = false := bfs hb1 (v := .int .i64 a) (by go_simp) (by go_simp); have k1_b3_1 : w1.cell? ⟨w.heap.size, 1, none⟩ = some (.int .i64 b) := bcs hb1 (by go_simp); have g1_b3_1 : w1.frozen? ⟨w.heap.size, 1, none⟩ = false := bfs hb1 (v := .int .i64 b) (by go_simp) (by go_simp); have k1_b3_2 : w1.cell? ⟨w.heap.size, 2, none⟩ = some (.int .i64 c) := bcs hb1 (by go_simp); have g1_b3_2 : w1.frozen? ⟨w.heap.size, 2, none⟩ = false := bfs hb1 (v := .int .i64 c) (by go_simp) (by go_simp); have k1_b3_3 : w1.cell? ⟨w.heap.size, 3, none⟩ = some (.int .i64 d) := bcs hb1 (by go_simp); have g1_b3_3 : w1.frozen? ⟨w.heap.size, 3, none⟩ = false := bfs hb1 (v := .int .i64 d) (by go_simp) (by go_simp); have q1_b3 : w.heap.size < w1.heap.size := qlt k1_b3_0; have x1_b3 : ¬ w.heap.size = w1.heap.size := qne k1_b3_0; have y1_b3 : ¬ w1.heap.size = w.heap.size := fun h => qne k1_b3_0 h.symm; have B1 : Below w.heap.size w w1 := bel_step (by repeat (first | with_reducible exact Below.refl _ _ | fail | with_reducible apply below_drewN | with_reducible apply Below.drew | (with_reducible refine Below.alloc ?_ (by first | (simp; done) | (simp; omega) | omega) _) | (with_reducible refine Below.setCell ?_ (by first | (simp; done) | (simp; omega) | omega) _))) hb1; have z1 : w.heap.size + 1 ≤ w1.heap.size := Nat.le_trans (by first | with_reducible assumption | (simp; done) | (simp; omega)) hb1.size; clear hb1))
      go_ret
      refine ⟨rfl, ?_⟩
      repeat (first | with_reducible exact Below.refl _ _ | with_reducible exact B1 | with_reducible apply below_drewN | with_reducible apply Below.drew | (with_reducible refine Below.alloc ?_ (by first | (simp; done) | (simp; omega) | omega) _) | (with_reducible refine Below.setCell ?_ (by first | (simp; done) | (simp; omega) | omega) _))
    by_cases h3 : y < d
    case neg =>
      have dd := decide_eq_false h3
      rw [show ctB a b c d x y = false by unfold ctB; rw [dd]; simp]
      go_enter Try.func85, Try.ntmps85
      go_wp2_with (first | (go_at_call 78; (with_reducible refine (q1 _).mono ?_); rintro e w1 ⟨rfl, hb1⟩; have k1_b3_0 : w1.cell? ⟨w.heap.size, 0, none⟩ = some (.int .i64 a) := bcs hb1 (by go_simp); have g1_b3_0 : w1.frozen? ⟨w.heap.size, 0, none⟩ = false := bfs hb1 (v := .int .i64 a) (by go_simp) (by go_simp); have k1_b3_1 : w1.cell? ⟨w.heap.size, 1, none⟩ = some (.int .i64 b) := bcs hb1 (by go_simp); have g1_b3_1 : w1.frozen? ⟨w.heap.size, 1, none⟩ = false := bfs hb1 (v := .int .i64 b) (by go_simp) (by go_simp); have k1_b3_2 : w1.cell? ⟨w.heap.size, 2, none⟩ = some (.int .i64 c) := bcs hb1 (by go_simp); have g1_b3_2 : w1.frozen? ⟨w.heap.size, 2, none⟩ = false := bfs hb1 (v := .int .i64 c) (by go_simp) (by go_simp); have k1_b3_3 : w1.cell? ⟨w.heap.size, 3, none⟩ = some (.int .i64 d) := bcs hb1 (by go_simp); have g1_b3_3 : w1.frozen? ⟨w.heap.size, 3, none⟩ = false := bfs hb1 (v := .int .i64 d) (by go_simp) (by go_simp); have q1_b3 : w.heap.size < w1.heap.size := qlt k1_b3_0; have x1_b3 : ¬ w.heap.size = w1.heap.size := qne k1_b3_0; have y1_b3 : ¬ w1.heap.size = w.heap.size := fun h => qne k1_b3_0 h.symm; have B1 : Below w.heap.size w w1 := bel_step (by repeat (first | with_reducible exact Below.refl _ _ | fail | with_reducible apply below_drewN | with_reducible apply Below.drew | (with_reducible refine Below.alloc ?_ (by first | (simp; done) | (simp; omega) | omega) _) | (with_reducible refine Below.setCell ?_ (by first | (simp; done) | (simp; omega) | omega) _))) hb1; have z1 : w.heap.size + 1 ≤ w1.heap.size := Nat.le_trans (by first | with_reducible assumption | (simp; done) | (simp; omega)) hb1.size; clear hb1))
      go_ret
      refine ⟨rfl, ?_⟩
      repeat (first | with_reducible exact Below.refl _ _ | with_reducible exact B1 | with_reducible apply below_drewN | with_reducible apply Below.drew | (with_reducible refine Below.alloc ?_ (by first | (simp; done) | (simp; omega) | omega) _) | (with_reducible refine Below.setCell ?_ (by first | (simp; done) | (simp; omega) | omega) _))
    rw [show ctB a b c d x y = true by simp [ctB, he, h0, h1, h2, h3]]
    clear he
    go_enter Try.func85, Try.ntmps85
    go_wp2_with (first | (go_at_call 78; (with_reducible refine (q1 _).mono ?_); rintro e w1 ⟨rfl, hb1⟩; have k1_b3_0 : w1.cell? ⟨w.heap.size, 0, none⟩ = some (.int .i64 a) := bcs hb1 (by go_simp); have g1_b3_0 : w1.frozen? ⟨w.heap.size, 0, none⟩ = false := bfs hb1 (v := .int .i64 a) (by go_simp) (by go_simp); have k1_b3_1 : w1.cell? ⟨w.heap.size, 1, none⟩ = some (.int .i64 b) := bcs hb1 (by go_simp); have g1_b3_1 : w1.frozen? ⟨w.heap.size, 1, none⟩ = false := bfs hb1 (v := .int .i64 b) (by go_simp) (by go_simp); have k1_b3_2 : w1.cell? ⟨w.heap.size, 2, none⟩ = some (.int .i64 c) := bcs hb1 (by go_simp); have g1_b3_2 : w1.frozen? ⟨w.heap.size, 2, none⟩ = false := bfs hb1 (v := .int .i64 c) (by go_simp) (by go_simp); have k1_b3_3 : w1.cell? ⟨w.heap.size, 3, none⟩ = some (.int .i64 d) := bcs hb1 (by go_simp); have g1_b3_3 : w1.frozen? ⟨w.heap.size, 3, none⟩ = false := bfs hb1 (v := .int .i64 d) (by go_simp) (by go_simp); have q1_b3 : w.heap.size < w1.heap.size := qlt k1_b3_0; have x1_b3 : ¬ w.heap.size = w1.heap.size := qne k1_b3_0; have y1_b3 : ¬ w1.heap.size = w.heap.size := fun h => qne k1_b3_0 h.symm; have B1 : Below w.heap.size w w1 := bel_step (by repeat (first | with_reducible exact Below.refl _ _ | fail | with_reducible apply below_drewN | with_reducible apply Below.drew | (with_reducible refine Below.alloc ?_ (by first | (simp; done) | (simp; omega) | omega) _) | (with_reducible refine Below.setCell ?_ (by first | (simp; done) | (simp; omega) | omega) _))) hb1; have z1 : w.heap.size + 1 ≤ w1.heap.size := Nat.le_trans (by first | with_reducible assumption | (simp; done) | (simp; omega)) hb1.size; clear hb1))
    go_ret
    refine ⟨rfl, ?_⟩
    repeat (first | with_reducible exact Below.refl _ _ | with_reducible exact B1 | with_reducible apply below_drewN | with_reducible apply Below.drew | (with_reducible refine Below.alloc ?_ (by first | (simp; done) | (simp; omega) | omega) _) | (with_reducible refine Below.setCell ?_ (by first | (simp; done) | (simp; omega) | omega) _))

set_option maxHeartbeats 2000000 in
theorem rcontains_any (a b c d x y : Int) (w : World) :
    Calls Try.prog 40 #[.agg #[.int .i64 a, .int .i64 b, .int .i64 c, .int .i64 d], .int .i64 x, .int .i64 y] w fun e w' => e = .returned (.bool (ctB a b c d x y)) ∧ Below w.heap.size w w' := by
  have q1 := fun w => rcanon_any a b c d w
  rw [← ctB_cn]
  obtain ⟨⟨a0, a1⟩, ⟨b0, b1⟩, ⟨c0, c1'⟩, d0, d1⟩ := cn_bd a b c d
  obtain ⟨A, eA⟩ : ∃ x, cn (eR a b c d) a = x := ⟨_, rfl⟩
  obtain ⟨B, eB⟩ : ∃ x, cn (eR a b c d) b = x := ⟨_, rfl⟩
  obtain ⟨C, eC⟩ : ∃ x, cn (eR a b c d) c = x := ⟨_, rfl⟩
  obtain ⟨D, eD⟩ : ∃ x, cn (eR a b c d) d = x := ⟨_, rfl⟩
  rw [eA, eB, eC, eD] at q1 ⊢
  clear eA eB eC eD a0 a1 b0 b1 c0 c1' d0 d1
  by_cases h0 : A ≤ x
  case neg =>
    have dd := decide_eq_false h0
    rw [show (decide (A ≤ x) && decide (x < C) && decide (B ≤ y) && decide (y < D)) = false by rw [dd]; simp]
    go_enter Try.func40, Try.ntmps40
    go_wp2_with (first | (go_at_call 49; (with_reducible refine (q1 _).mono ?_); rintro e w1 ⟨rfl, hb1⟩; have k1_b3_0 : w1.cell? ⟨w.heap.size, 0, none⟩ = some (.int .i64 a) := bcs hb1 (by go_simp); have g1_b3_0 : w1.frozen? ⟨w.heap.size, 0, none⟩ = false := bfs hb1 (v := .int .i64 a) (by go_simp) (by go_simp); have k1_b3_1 : w1.cell? ⟨w.heap.size, 1, none⟩ = some (.int .i64 b) := bcs hb1 (by go_simp); have g1_b3_1 : w1.frozen? ⟨w.heap.size, 1, none⟩ = false := bfs hb1 (v := .int .i64 b) (by go_simp) (by go_simp); have k1_b3_2 : w1.cell? ⟨w.heap.size, 2, none⟩ = some (.int .i64 c) := bcs hb1 (by go_simp); have g1_b3_2 : w1.frozen? ⟨w.heap.size, 2, none⟩ = false := bfs hb1 (v := .int .i64 c) (by go_simp) (by go_simp); have k1_b3_3 : w1.cell? ⟨w.heap.size, 3, none⟩ = some (.int .i64 d) := bcs hb1 (by go_simp); have g1_b3_3 : w1.frozen? ⟨w.heap.size, 3, none⟩ = false := bfs hb1 (v := .int .i64 d) (by go_simp) (by go_simp); have q1_b3 : w.heap.size < w1.heap.size := qlt k1_b3_0; have x1_b3 : ¬ w.heap.size = w1.heap.size := qne k1_b3_0; have y1_b3 : ¬ w1.heap.size = w.heap.size := fun h => qne k1_b3_0 h.symm; have B1 : Below w.heap.size w w1 := bel_step (by repeat (first | with_reducible exact Below.refl _ _ | fail | with_reducible apply below_drewN | with_reducible apply Below.drew | (with_reducible refine Below.alloc ?_ (by first | (simp; done) | (simp; omega) | omega) _) | (with_reducible refine Below.setCell ?_ (by first | (simp; done) | (simp; omega) | omega) _))) hb1; have z1 : w.heap.size + 1 ≤ w1.heap.size := Nat.le_trans (by first | with_reducible assumption | (simp; done) | (simp; omega)) hb1.size; clear hb1))
    go_ret
    refine ⟨rfl, ?_⟩
    repeat (first | with_reducible exact Below.refl _ _ | with_reducible exact B1 | with_reducible apply below_drewN | with_reducible apply Below.drew | (with_reducible refine Below.alloc ?_ (by first | (simp; done) | (simp; omega) | omega) _) | (with_reducible refine Below.setCell ?_ (by first | (simp; done) | (simp; omega) | omega) _))
  by_cases h1 : x < C
  case neg =>
    have dd := decide_eq_false h1
    rw [show (decide (A ≤ x) && decide (x < C) && decide (B ≤ y) && decide (y < D)) = false by rw [dd]; simp]
    go_enter Try.func40, Try.ntmps40
    go_wp2_with (first | (go_at_call 49; (with_reducible refine (q1 _).mono ?_); rintro e w1 ⟨rfl, hb1⟩; have k1_b3_0 : w1.cell? ⟨w.heap.size, 0, none⟩ = some (.int .i64 a) := bcs hb1 (by go_simp); have g1_b3_0 : w1.frozen? ⟨w.heap.size, 0, none⟩ = false := bfs hb1 (v := .int .i64 a) (by go_simp) (by go_simp); have k1_b3_1 : w1.cell? ⟨w.heap.size, 1, none⟩ = some (.int .i64 b) := bcs hb1 (by go_simp); have g1_b3_1 : w1.frozen? ⟨w.heap.size, 1, none⟩ = false := bfs hb1 (v := .int .i64 b) (by go_simp) (by go_simp); have k1_b3_2 : w1.cell? ⟨w.heap.size, 2, none⟩ = some (.int .i64 c) := bcs hb1 (by go_simp); have g1_b3_2 : w1.frozen? ⟨w.heap.size, 2, none⟩ = false := bfs hb1 (v := .int .i64 c) (by go_simp) (by go_simp); have k1_b3_3 : w1.cell? ⟨w.heap.size, 3, none⟩ = some (.int .i64 d) := bcs hb1 (by go_simp); have g1_b3_3 : w1.frozen? ⟨w.heap.size, 3, none⟩ = false := bfs hb1 (v := .int .i64 d) (by go_simp) (by go_simp); have q1_b3 : w.heap.size < w1.heap.size := qlt k1_b3_0; have x1_b3 : ¬ w.heap.size = w1.heap.size := qne k1_b3_0; have y1_b3 : ¬ w1.heap.size = w.heap.size := fun h => qne k1_b3_0 h.symm; have B1 : Below w.heap.size w w1 := bel_step (by repeat (first | with_reducible exact Below.refl _ _ | fail | with_reducible apply below_drewN | with_reducible apply Below.drew | (with_reducible refine Below.alloc ?_ (by first | (simp; done) | (simp; omega) | omega) _) | (with_reducible refine Below.setCell ?_ (by first | (simp; done) | (simp; omega) | omega) _))) hb1; have z1 : w.heap.size + 1 ≤ w1.heap.size := Nat.le_trans (by first | with_reducible assumption | (simp; done) | (simp; omega)) hb1.size; clear hb1))
    go_ret
    refine ⟨rfl, ?_⟩
    repeat (first | with_reducible exact Below.refl _ _ | with_reducible exact B1 | with_reducible apply below_drewN | with_reducible apply Below.drew | (with_reducible refine Below.alloc ?_ (by first | (simp; done) | (simp; omega) | omega) _) | (with_reducible refine Below.setCell ?_ (by first | (simp; done) | (simp; omega) | omega) _))
  by_cases h2 : B ≤ y
  case neg =>
    have dd := decide_eq_false h2
    rw [show (decide (A ≤ x) && decide (x < C) && decide (B ≤ y) && decide (y < D)) = false by rw [dd]; simp]
    go_enter Try.func40, Try.ntmps40
    go_wp2_with (first | (go_at_call 49; (with_reducible refine (q1 _).mono ?_); rintro e w1 ⟨rfl, hb1⟩; have k1_b3_0 : w1.cell? ⟨w.heap.size, 0, none⟩ = some (.int .i64 a) := bcs hb1 (by go_simp); have g1_b3_0 : w1.frozen? ⟨w.heap.size, 0, none⟩ = false := bfs hb1 (v := .int .i64 a) (by go_simp) (by go_simp); have k1_b3_1 : w1.cell? ⟨w.heap.size, 1, none⟩ = some (.int .i64 b) := bcs hb1 (by go_simp); have g1_b3_1 : w1.frozen? ⟨w.heap.size, 1, none⟩ = false := bfs hb1 (v := .int .i64 b) (by go_simp) (by go_simp); have k1_b3_2 : w1.cell? ⟨w.heap.size, 2, none⟩ = some (.int .i64 c) := bcs hb1 (by go_simp); have g1_b3_2 : w1.frozen? ⟨w.heap.size, 2, none⟩ = false := bfs hb1 (v := .int .i64 c) (by go_simp) (by go_simp); have k1_b3_3 : w1.cell? ⟨w.heap.size, 3, none⟩ = some (.int .i64 d) := bcs hb1 (by go_simp); have g1_b3_3 : w1.frozen? ⟨w.heap.size, 3, none⟩ = false := bfs hb1 (v := .int .i64 d) (by go_simp) (by go_simp); have q1_b3 : w.heap.size < w1.heap.size := qlt k1_b3_0; have x1_b3 : ¬ w.heap.size = w1.heap.size := qne k1_b3_0; have y1_b3 : ¬ w1.heap.size = w.heap.size := fun h => qne k1_b3_0 h.symm; have B1 : Below w.heap.size w w1 := bel_step (by repeat (first | with_reducible exact Below.refl _ _ | fail | with_reducible apply below_drewN | with_reducible apply Below.drew | (with_reducible refine Below.alloc ?_ (by first | (simp; done) | (simp; omega) | omega) _) | (with_reducible refine Below.setCell ?_ (by first | (simp; done) | (simp; omega) | omega) _))) hb1; have z1 : w.heap.size + 1 ≤ w1.heap.size := Nat.le_trans (by first | with_reducible assumption | (simp; done) | (simp; omega)) hb1.size; clear hb1))
    go_ret
    refine ⟨rfl, ?_⟩
    repeat (first | with_reducible exact Below.refl _ _ | with_reducible exact B1 | with_reducible apply below_drewN | with_reducible apply Below.drew | (with_reducible refine Below.alloc ?_ (by first | (simp; done) | (simp; omega) | omega) _) | (with_reducible refine Below.setCell ?_ (by first | (simp; done) | (simp; omega) | omega) _))
  by_cases h3 : y < D
  case neg =>
    have dd := decide_eq_false h3
    rw [show (decide (A ≤ x) && decide (x < C) && decide (B ≤ y) && decide (y < D)) = false by rw [dd]; simp]
    go_enter Try.func40, Try.ntmps40
    go_wp2_with (first | (go_at_call 49; (with_reducible refine (q1 _).mono ?_); rintro e w1 ⟨rfl, hb1⟩; have k1_b3_0 : w1.cell? ⟨w.heap.size, 0, none⟩ = some (.int .i64 a) := bcs hb1 (by go_simp); have g1_b3_0 : w1.frozen? ⟨w.heap.size, 0, none⟩ = false := bfs hb1 (v := .int .i64 a) (by go_simp) (by go_simp); have k1_b3_1 : w1.cell? ⟨w.heap.size, 1, none⟩ = some (.int .i64 b) := bcs hb1 (by go_simp); have g1_b3_1 : w1.frozen? ⟨w.heap.size, 1, none⟩ = false := bfs hb1 (v := .int .i64 b) (by go_simp) (by go_simp); have k1_b3_2 : w1.cell? ⟨w.heap.size, 2, none⟩ = some (.int .i64 c) := bcs hb1 (by go_simp); have g1_b3_2 : w1.frozen? ⟨w.heap.size, 2, none⟩ = false := bfs hb1 (v := .int .i64 c) (by go_simp) (by go_simp); have k1_b3_3 : w1.cell? ⟨w.heap.size, 3, none⟩ = some (.int .i64 d) := bcs hb1 (by go_simp); have g1_b3_3 : w1.frozen? ⟨w.heap.size, 3, none⟩ = false := bfs hb1 (v := .int .i64 d) (by go_simp) (by go_simp); have q1_b3 : w.heap.size < w1.heap.size := qlt k1_b3_0; have x1_b3 : ¬ w.heap.size = w1.heap.size := qne k1_b3_0; have y1_b3 : ¬ w1.heap.size = w.heap.size := fun h => qne k1_b3_0 h.symm; have B1 : Below w.heap.size w w1 := bel_step (by repeat (first | with_reducible exact Below.refl _ _ | fail | with_reducible apply below_drewN | with_reducible apply Below.drew | (with_reducible refine Below.alloc ?_ (by first | (simp; done) | (simp; omega) | omega) _) | (with_reducible refine Below.setCell ?_ (by first | (simp; done) | (simp; omega) | omega) _))) hb1; have z1 : w.heap.size + 1 ≤ w1.heap.size := Nat.le_trans (by first | with_reducible assumption | (simp; done) | (simp; omega)) hb1.size; clear hb1))
    go_ret
    refine ⟨rfl, ?_⟩
    repeat (first | with_reducible exact Below.refl _ _ | with_reducible exact B1 | with_reducible apply below_drewN | with_reducible apply Below.drew | (with_reducible refine Below.alloc ?_ (by first | (simp; done) | (simp; omega) | omega) _) | (with_reducible refine Below.setCell ?_ (by first | (simp; done) | (simp; omega) | omega) _))
  rw [show (decide (A ≤ x) && decide (x < C) && decide (B ≤ y) && decide (y < D)) = true by simp [h0, h1, h2, h3]]
  go_enter Try.func40, Try.ntmps40
  go_wp2_with (first | (go_at_call 49; (with_reducible refine (q1 _).mono ?_); rintro e w1 ⟨rfl, hb1⟩; have k1_b3_0 : w1.cell? ⟨w.heap.size, 0, none⟩ = some (.int .i64 a) := bcs hb1 (by go_simp); have g1_b3_0 : w1.frozen? ⟨w.heap.size, 0, none⟩ = false := bfs hb1 (v := .int .i64 a) (by go_simp) (by go_simp); have k1_b3_1 : w1.cell? ⟨w.heap.size, 1, none⟩ = some (.int .i64 b) := bcs hb1 (by go_simp); have g1_b3_1 : w1.frozen? ⟨w.heap.size, 1, none⟩ = false := bfs hb1 (v := .int .i64 b) (by go_simp) (by go_simp); have k1_b3_2 : w1.cell? ⟨w.heap.size, 2, none⟩ = some (.int .i64 c) := bcs hb1 (by go_simp); have g1_b3_2 : w1.frozen? ⟨w.heap.size, 2, none⟩ = false := bfs hb1 (v := .int .i64 c) (by go_simp) (by go_simp); have k1_b3_3 : w1.cell? ⟨w.heap.size, 3, none⟩ = some (.int .i64 d) := bcs hb1 (by go_simp); have g1_b3_3 : w1.frozen? ⟨w.heap.size, 3, none⟩ = false := bfs hb1 (v := .int .i64 d) (by go_simp) (by go_simp); have q1_b3 : w.heap.size < w1.heap.size := qlt k1_b3_0; have x1_b3 : ¬ w.heap.size = w1.heap.size := qne k1_b3_0; have y1_b3 : ¬ w1.heap.size = w.heap.size := fun h => qne k1_b3_0 h.symm; have B1 : Below w.heap.size w w1 := bel_step (by repeat (first | with_reducible exact Below.refl _ _ | fail | with_reducible apply below_drewN | with_reducible apply Below.drew | (with_reducible refine Below.alloc ?_ (by first | (simp; done) | (simp; omega) | omega) _) | (with_reducible refine Below.setCell ?_ (by first | (simp; done) | (simp; omega) | omega) _))) hb1; have z1 : w.heap.size + 1 ≤ w1.heap.size := Nat.le_trans (by first | with_reducible assumption | (simp; done) | (simp; omega)) hb1.size; clear hb1))
  go_ret
  refine ⟨rfl, ?_⟩
  repeat (first | with_reducible exact Below.refl _ _ | with_reducible exact B1 | with_reducible apply below_drewN | with_reducible apply Below.drew | (with_reducible refine Below.alloc ?_ (by first | (simp; done) | (simp; omega) | omega) _) | (with_reducible refine Below.setCell ?_ (by first | (simp; done) | (simp; omega) | omega) _))

set_option maxHeartbeats 2000000 in
theorem pix_any (a b c d x y : Int) (w : World) :
    Calls Try.prog 79 #[.agg #[.int .i64 a, .int .i64 b, .int .i64 c, .int .i64 d], .int .i64 x, .int .i64 y] w fun e w' => e = .returned (.int .i64 (pxV a b c d x y)) ∧ Below w.heap.size w w' := by
  have q1 := fun w => contains_any a b c d x y w
  cases he : ctB a b c d x y with
  | false =>
    rw [he] at q1
    rw [show pxV a b c d x y = -1 by simp [pxV, he]]
    clear he
    go_enter Try.func79, Try.ntmps79
    go_wp2_with (first | (go_at_call 85; (with_reducible refine (q1 _).mono ?_); rintro e w1 ⟨rfl, hb1⟩; have k1_b3_0 : w1.cell? ⟨w.heap.size, 0, none⟩ = some (.int .i64 a) := bcs hb1 (by go_simp); have g1_b3_0 : w1.frozen? ⟨w.heap.size, 0, none⟩ = false := bfs hb1 (v := .int .i64 a) (by go_simp) (by go_simp); have k1_b3_1 : w1.cell? ⟨w.heap.size, 1, none⟩ = some (.int .i64 b) := bcs hb1 (by go_simp); have g1_b3_1 : w1.frozen? ⟨w.heap.size, 1, none⟩ = false := bfs hb1 (v := .int .i64 b) (by go_simp) (by go_simp); have k1_b3_2 : w1.cell? ⟨w.heap.size, 2, none⟩ = some (.int .i64 c) := bcs hb1 (by go_simp); have g1_b3_2 : w1.frozen? ⟨w.heap.size, 2, none⟩ = false := bfs hb1 (v := .int .i64 c) (by go_simp) (by go_simp); have k1_b3_3 : w1.cell? ⟨w.heap.size, 3, none⟩ = some (.int .i64 d) := bcs hb1 (by go_simp); have g1_b3_3 : w1.frozen? ⟨w.heap.size, 3, none⟩ = false := bfs hb1 (v := .int .i64 d) (by go_simp) (by go_simp); have q1_b3 : w.heap.size < w1.heap.size := qlt k1_b3_0; have x1_b3 : ¬ w.heap.size = w1.heap.size := qne k1_b3_0; have y1_b3 : ¬ w1.heap.size = w.heap.size := fun h => qne k1_b3_0 h.symm; have B1 : Below w.heap.size w w1 := bel_step (by repeat (first | with_reducible exact Below.refl _ _ | fail | with_reducible apply below_drewN | with_reducible apply Below.drew | (with_reducible refine Below.alloc ?_ (by first | (simp; done) | (simp; omega) | omega) _) | (with_reducible refine Below.setCell ?_ (by first | (simp; done) | (simp; omega) | omega) _))) hb1; have z1 : w.heap.size + 1 ≤ w1.heap.size := Nat.le_trans (by first | with_reducible assumption | (simp; done) | (simp; omega)) hb1.size; clear hb1))
    go_ret
    refine ⟨rfl, ?_⟩
    repeat (first | with_reducible exact Below.refl _ _ | with_reducible exact B1 | with_reducible apply below_drewN | with_reducible apply Below.drew | (with_reducible refine Below.alloc ?_ (by first | (simp; done) | (simp; omega) | omega) _) | (with_reducible refine Below.setCell ?_ (by first | (simp; done) | (simp; omega) | omega) _))
  | true =>
    rw [he] at q1
    rw [show pxV a b c d x y = (y - b) * (c - a) + x - a by simp [pxV, he]]
    have hh : eR a b c d = false ∧ a ≤ x ∧ x < c ∧ b ≤ y ∧ y < d := by
      simp only [ctB, Bool.and_eq_true, Bool.not_eq_true', decide_eq_true_eq] at he
      obtain ⟨⟨⟨⟨k0, k1⟩, k2⟩, k3⟩, k4⟩ := he
      exact ⟨k0, k1, k2, k3, k4⟩
    obtain ⟨k0, k1, k2, k3, k4⟩ := hh
    obtain ⟨⟨a0, a1⟩, ⟨b0, b1⟩, ⟨c0, c1⟩, ⟨d0, d1⟩, _, _⟩ := (eR_false a b c d).1 k0
    clear he k0
    have mm := mul_bd (y - b) (c - a) 8192 8192 (by omega) (by omega) (by omega) (by omega)
    go_enter Try.func79, Try.ntmps79
    go_wp2_with (first | (go_at_call 85; (with_reducible refine (q1 _).mono ?_); rintro e w1 ⟨rfl, hb1⟩; have k1_b3_0 : w1.cell? ⟨w.heap.size, 0, none⟩ = some (.int .i64 a) := bcs hb1 (by go_simp); have g1_b3_0 : w1.frozen? ⟨w.heap.size, 0, none⟩ = false := bfs hb1 (v := .int .i64 a) (by go_simp) (by go_simp); have k1_b3_1 : w1.cell? ⟨w.heap.size, 1, none⟩ = some (.int .i64 b) := bcs hb1 (by go_simp); have g1_b3_1 : w1.frozen? ⟨w.heap.size, 1, none⟩ = false := bfs hb1 (v := .int .i64 b) (by go_simp) (by go_simp); have k1_b3_2 : w1.cell? ⟨w.heap.size, 2, none⟩ = some (.int .i64 c) := bcs hb1 (by go_simp); have g1_b3_2 : w1.frozen? ⟨w.heap.size, 2, none⟩ = false := bfs hb1 (v := .int .i64 c) (by go_simp) (by go_simp); have k1_b3_3 : w1.cell? ⟨w.heap.size, 3, none⟩ = some (.int .i64 d) := bcs hb1 (by go_simp); have g1_b3_3 : w1.frozen? ⟨w.heap.size, 3, none⟩ = false := bfs hb1 (v := .int .i64 d) (by go_simp) (by go_simp); have q1_b3 : w.heap.size < w1.heap.size := qlt k1_b3_0; have x1_b3 : ¬ w.heap.size = w1.heap.size := qne k1_b3_0; have y1_b3 : ¬ w1.heap.size = w.heap.size := fun h => qne k1_b3_0 h.symm; have B1 : Below w.heap.size w w1 := bel_step (by repeat (first | with_reducible exact Below.refl _ _ | fail | with_reducible apply below_drewN | with_reducible apply Below.drew | (with_reducible refine Below.alloc ?_ (by first | (simp; done) | (simp; omega) | omega) _) | (with_reducible refine Below.setCell ?_ (by first | (simp; done) | (simp; omega) | omega) _))) hb1; have z1 : w.heap.size + 1 ≤ w1.heap.size := Nat.le_trans (by first | with_reducible assumption | (simp; done) | (simp; omega)) hb1.size; clear hb1))
    go_ret
    refine ⟨rfl, ?_⟩
    repeat (first | with_reducible exact Below.refl _ _ | with_reducible exact B1 | with_reducible apply below_drewN | with_reducible apply Below.drew | (with_reducible refine Below.alloc ?_ (by first | (simp; done) | (simp; omega) | omega) _) | (with_reducible refine Below.setCell ?_ (by first | (simp; done) | (simp; omega) | omega) _))

set_option maxHeartbeats 2000000 in
theorem rpix_any (a b c d x y : Int) (w : World) :
    Calls Try.prog 51 #[.agg #[.int .i64 a, .int .i64 b, .int .i64 c, .int .i64 d], .int .i64 x, .int .i64 y] w fun e w' => e = .returned (.int .i64 (pxV a b c d x y)) ∧ Below w.heap.size w w' := by
  have q1 := fun w => rcontains_any a b c d x y w
  cases he : ctB a b c d x y with
  | false =>
    rw [he] at q1
    rw [show pxV a b c d x y = -1 by simp [pxV, he]]
    clear he
    go_enter Try.func51, Try.ntmps51
    go_wp2_with (first | (go_at_call 40; (with_reducible refine (q1 _).mono ?_); rintro e w1 ⟨rfl, hb1⟩; have k1_b3_0 : w1.cell? ⟨w.heap.size, 0, none⟩ = some (.int .i64 a) := bcs hb1 (by go_simp); have g1_b3_0 : w1.frozen? ⟨w.heap.size, 0, none⟩ = false := bfs hb1 (v := .int .i64 a) (by go_simp) (by go_simp); have k1_b3_1 : w1.cell? ⟨w.heap.size, 1, none⟩ = some (.int .i64 b) := bcs hb1 (by go_simp); have g1_b3_1 : w1.frozen? ⟨w.heap.size, 1, none⟩ = false := bfs hb1 (v := .int .i64 b) (by go_simp) (by go_simp); have k1_b3_2 : w1.cell? ⟨w.heap.size, 2, none⟩ = some (.int .i64 c) := bcs hb1 (by go_simp); have g1_b3_2 : w1.frozen? ⟨w.heap.size, 2, none⟩ = false := bfs hb1 (v := .int .i64 c) (by go_simp) (by go_simp); have k1_b3_3 : w1.cell? ⟨w.heap.size, 3, none⟩ = some (.int .i64 d) := bcs hb1 (by go_simp); have g1_b3_3 : w1.frozen? ⟨w.heap.size, 3, none⟩ = false := bfs hb1 (v := .int .i64 d) (by go_simp) (by go_simp); have q1_b3 : w.heap.size < w1.heap.size := qlt k1_b3_0; have x1_b3 : ¬ w.heap.size = w1.heap.size := qne k1_b3_0; have y1_b3 : ¬ w1.heap.size = w.heap.size := fun h => qne k1_b3_0 h.symm; have B1 : Below w.heap.size w w1 := bel_step (by repeat (first | with_reducible exact Below.refl _ _ | fail | with_reducible apply below_drewN | with_reducible apply Below.drew | (with_reducible refine Below.alloc ?_ (by first | (simp; done) | (simp; omega) | omega) _) | (with_reducible refine Below.setCell ?_ (by first | (simp; done) | (simp; omega) | omega) _))) hb1; have z1 : w.heap.size + 1 ≤ w1.heap.size := Nat.le_trans (by first | with_reducible assumption | (simp; done) | (simp; omega)) hb1.size; clear hb1))
    go_ret
    refine ⟨rfl, ?_⟩
    repeat (first | with_reducible exact Below.refl _ _ | with_reducible exact B1 | with_reducible apply below_drewN | with_reducible apply Below.drew | (with_reducible refine Below.alloc ?_ (by first | (simp; done) | (simp; omega) | omega) _) | (with_reducible refine Below.setCell ?_ (by first | (simp; done) | (simp; omega) | omega) _))
  | true =>
    rw [he] at q1
    rw [show pxV a b c d x y = (y - b) * (c - a) + x - a by simp [pxV, he]]
    have hh : eR a b c d = false ∧ a ≤ x ∧ x < c ∧ b ≤ y ∧ y < d := by
      simp only [ctB, Bool.and_eq_true, Bool.not_eq_true', decide_eq_true_eq] at he
      obtain ⟨⟨⟨⟨k0, k1⟩, k2⟩, k3⟩, k4⟩ := he
      exact ⟨k0, k1, k2, k3, k4⟩
    obtain ⟨k0, k1, k2, k3, k4⟩ := hh
    obtain ⟨⟨a0, a1⟩, ⟨b0, b1⟩, ⟨c0, c1⟩, ⟨d0, d1⟩, _, _⟩ := (eR_false a b c d).1 k0
    clear he k0
    have mm := mul_bd (y - b) (c - a) 8192 8192 (by omega) (by omega) (by omega) (by omega)
    go_enter Try.func51, Try.ntmps51
    go_wp2_with (first | (go_at_call 40; (with_reducible refine (q1 _).mono ?_); rintro e w1 ⟨rfl, hb1⟩; have k1_b3_0 : w1.cell? ⟨w.heap.size, 0, none⟩ = some (.int .i64 a) := bcs hb1 (by go_simp); have g1_b3_0 : w1.frozen? ⟨w.heap.size, 0, none⟩ = false := bfs hb1 (v := .int .i64 a) (by go_simp) (by go_simp); have k1_b3_1 : w1.cell? ⟨w.heap.size, 1, none⟩ = some (.int .i64 b) := bcs hb1 (by go_simp); have g1_b3_1 : w1.frozen? ⟨w.heap.size, 1, none⟩ = false := bfs hb1 (v := .int .i64 b) (by go_simp) (by go_simp); have k1_b3_2 : w1.cell? ⟨w.heap.size, 2, none⟩ = some (.int .i64 c) := bcs hb1 (by go_simp); have g1_b3_2 : w1.frozen? ⟨w.heap.size, 2, none⟩ = false := bfs hb1 (v := .int .i64 c) (by go_simp) (by go_simp); have k1_b3_3 : w1.cell? ⟨w.heap.size, 3, none⟩ = some (.int .i64 d) := bcs hb1 (by go_simp); have g1_b3_3 : w1.frozen? ⟨w.heap.size, 3, none⟩ = false := bfs hb1 (v := .int .i64 d) (by go_simp) (by go_simp); have q1_b3 : w.heap.size < w1.heap.size := qlt k1_b3_0; have x1_b3 : ¬ w.heap.size = w1.heap.size := qne k1_b3_0; have y1_b3 : ¬ w1.heap.size = w.heap.size := fun h => qne k1_b3_0 h.symm; have B1 : Below w.heap.size w w1 := bel_step (by repeat (first | with_reducible exact Below.refl _ _ | fail | with_reducible apply below_drewN | with_reducible apply Below.drew | (with_reducible refine Below.alloc ?_ (by first | (simp; done) | (simp; omega) | omega) _) | (with_reducible refine Below.setCell ?_ (by first | (simp; done) | (simp; omega) | omega) _))) hb1; have z1 : w.heap.size + 1 ≤ w1.heap.size := Nat.le_trans (by first | with_reducible assumption | (simp; done) | (simp; omega)) hb1.size; clear hb1))
    go_ret
    refine ⟨rfl, ?_⟩
    repeat (first | with_reducible exact Below.refl _ _ | with_reducible exact B1 | with_reducible apply below_drewN | with_reducible apply Below.drew | (with_reducible refine Below.alloc ?_ (by first | (simp; done) | (simp; omega) | omega) _) | (with_reducible refine Below.setCell ?_ (by first | (simp; done) | (simp; omega) | omega) _))
end Go.Proofs.Ytfbgfnebodabpaa
