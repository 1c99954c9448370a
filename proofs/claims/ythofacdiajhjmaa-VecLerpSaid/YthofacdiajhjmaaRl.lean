import Derived.Test.YthofacdiajhjmaaV6
import Derived.Test.YthofacdiajhjmaaI6
import Derived.Test.YthofacdiajhjmaaEnv
import Derived.WalkKit
import Derived.WalkSpells
import Derived.WalkLawsBesides
import Derived.Lib.Hide
import Derived.Below
import Derived.Deep.QuietTactic
import Derived.BigQuiet
import Derived.Deep.RegionHeld3
import Derived.Deep.DrawnRows
import Derived.Deep.DeepFit
import Derived.IntWalk
namespace Go.Proofs.Ythofacdiajhjmaa
open Go.RowKit
set_option linter.unusedVariables false
set_option linter.unusedSimpArgs false
attribute [local go_sem ↓] Go.wp_at_zero Go.wp_at_succ
attribute [local go_sem] rhoF_tmp rhoF_const rhoF_global rhoF_func
set_option maxRecDepth 20000 in
set_option maxHeartbeats 4000000 in
theorem rlerp_any (x y u v n d : Int) (w : World) :
    Calls Try.prog 13 #[.agg #[.int .i64 x, .int .i64 y], .agg #[.int .i64 u, .int .i64 v], .int .i64 n, .int .i64 d] w fun e w' => e = .returned (.agg #[.int .i64 (lerpV (hold x) (hold u) n d), .int .i64 (lerpV (hold y) (hold v) n d)]) ∧ Below w.heap.size w w' := by
  obtain ⟨bx0, bx1⟩ := hold_bd x
  obtain ⟨by0, by1⟩ := hold_bd y
  obtain ⟨bu0, bu1⟩ := hold_bd u
  obtain ⟨bv0, bv1⟩ := hold_bd v
  by_cases hd : d < 1 ∨ 1099511627776 < d
  · rw [lerpV_out _ _ _ _ hd, lerpV_out _ _ _ _ hd]
    rcases hd with hd | hd
    · skip
      go_enter Try.func13, Try.ntmps13
      go_wp2_with (first | (go_at_call 31; (with_reducible refine (hold_any x y _).mono ?_); rintro e w1 ⟨rfl, hb1⟩; have k1_b4_0 : w1.cell? ⟨w.heap.size, 0, none⟩ = some (.int .i64 x) := bcs hb1 (by go_simp); have g1_b4_0 : w1.frozen? ⟨w.heap.size, 0, none⟩ = false := bfs hb1 (v := .int .i64 x) (by go_simp) (by go_simp); have k1_b4_1 : w1.cell? ⟨w.heap.size, 1, none⟩ = some (.int .i64 y) := bcs hb1 (by go_simp); have g1_b4_1 : w1.frozen? ⟨w.heap.size, 1, none⟩ = false := bfs hb1 (v := .int .i64 y) (by go_simp) (by go_simp); have k1_b5_0 : w1.cell? ⟨w.heap.size + 1, 0, none⟩ = some (.int .i64 u) := bcs hb1 (by go_simp); have g1_b5_0 : w1.frozen? ⟨w.heap.size + 1, 0, none⟩ = false := bfs hb1 (v := .int .i64 u) (by go_simp) (by go_simp); have k1_b5_1 : w1.cell? ⟨w.heap.size + 1, 1, none⟩ = some (.int .i64 v) := bcs hb1 (by go_simp); have g1_b5_1 : w1.frozen? ⟨w.heap.size + 1, 1, none⟩ = false := bfs hb1 (v := .int .i64 v) (by go_simp) (by go_simp); have k1_b8_0 : w1.cell? ⟨w.heap.size + 1 + 1, 0, none⟩ = some (.int .i64 0) := bcs hb1 (by go_simp); have g1_b8_0 : w1.frozen? ⟨w.heap.size + 1 + 1, 0, none⟩ = false := bfs hb1 (v := .int .i64 0) (by go_simp) (by go_simp); have k1_b8_1 : w1.cell? ⟨w.heap.size + 1 + 1, 1, none⟩ = some (.int .i64 0) := bcs hb1 (by go_simp); have g1_b8_1 : w1.frozen? ⟨w.heap.size + 1 + 1, 1, none⟩ = false := bfs hb1 (v := .int .i64 0) (by go_simp) (by go_simp); have q1_b4 : w.heap.size < w1.heap.size := qlt k1_b4_0; have x1_b4 : ¬ w.heap.size = w1.heap.size := qne k1_b4_0; have y1_b4 : ¬ w1.heap.size = w.heap.size := fun h => qne k1_b4_0 h.symm; have q1_b5 : w.heap.size + 1 < w1.heap.size := qlt k1_b5_0; have x1_b5 : ¬ w.heap.size + 1 = w1.heap.size := qne k1_b5_0; have y1_b5 : ¬ w1.heap.size = w.heap.size + 1 := fun h => qne k1_b5_0 h.symm; have q1_b8 : w.heap.size + 1 + 1 < w1.heap.size := qlt k1_b8_0; have x1_b8 : ¬ w.heap.size + 1 + 1 = w1.heap.size := qne k1_b8_0; have y1_b8 : ¬ w1.heap.size = w.heap.size + 1 + 1 := fun h => qne k1_b8_0 h.symm; have B1 : Below w.heap.size w w1 := bel_step (by repeat (first | with_reducible exact Below.refl _ _ | fail | with_reducible apply below_drewN | with_reducible apply Below.drew | (with_reducible refine Below.alloc ?_ (by first | (simp; done) | (simp; omega) | omega) _) | (with_reducible refine Below.setCell ?_ (by first | (simp; done) | (simp; omega) | omega) _))) hb1; have z1 : w.heap.size + 1 + 1 + 1 ≤ w1.heap.size := Nat.le_trans (by first | with_reducible assumption | (simp; done) | (simp; omega)) hb1.size; clear hb1))
      refine bodyPost_ret (v := .agg #[.int .i64 (hold x), .int .i64 (hold y)]) (by simp [results, Try.results13, go_sem, *]) rfl ⟨rfl, ?_⟩
      repeat (first | with_reducible exact Below.refl _ _ | with_reducible exact B1 | with_reducible apply below_drewN | with_reducible apply Below.drew | (with_reducible refine Below.alloc ?_ (by first | (simp; done) | (simp; omega) | omega) _) | (with_reducible refine Below.setCell ?_ (by first | (simp; done) | (simp; omega) | omega) _))
    · have hd1 : ¬ d < 1 := by omega
      go_enter Try.func13, Try.ntmps13
      go_wp2_with (first | (go_at_call 31; (with_reducible refine (hold_any x y _).mono ?_); rintro e w1 ⟨rfl, hb1⟩; have k1_b4_0 : w1.cell? ⟨w.heap.size, 0, none⟩ = some (.int .i64 x) := bcs hb1 (by go_simp); have g1_b4_0 : w1.frozen? ⟨w.heap.size, 0, none⟩ = false := bfs hb1 (v := .int .i64 x) (by go_simp) (by go_simp); have k1_b4_1 : w1.cell? ⟨w.heap.size, 1, none⟩ = some (.int .i64 y) := bcs hb1 (by go_simp); have g1_b4_1 : w1.frozen? ⟨w.heap.size, 1, none⟩ = false := bfs hb1 (v := .int .i64 y) (by go_simp) (by go_simp); have k1_b5_0 : w1.cell? ⟨w.heap.size + 1, 0, none⟩ = some (.int .i64 u) := bcs hb1 (by go_simp); have g1_b5_0 : w1.frozen? ⟨w.heap.size + 1, 0, none⟩ = false := bfs hb1 (v := .int .i64 u) (by go_simp) (by go_simp); have k1_b5_1 : w1.cell? ⟨w.heap.size + 1, 1, none⟩ = some (.int .i64 v) := bcs hb1 (by go_simp); have g1_b5_1 : w1.frozen? ⟨w.heap.size + 1, 1, none⟩ = false := bfs hb1 (v := .int .i64 v) (by go_simp) (by go_simp); have k1_b8_0 : w1.cell? ⟨w.heap.size + 1 + 1, 0, none⟩ = some (.int .i64 0) := bcs hb1 (by go_simp); have g1_b8_0 : w1.frozen? ⟨w.heap.size + 1 + 1, 0, none⟩ = false := bfs hb1 (v := .int .i64 0) (by go_simp) (by go_simp); have k1_b8_1 : w1.cell? ⟨w.heap.size + 1 + 1, 1, none⟩ = some (.int .i64 0) := bcs hb1 (by go_simp); have g1_b8_1 : w1.frozen? ⟨w.heap.size + 1 + 1, 1, none⟩ = false := bfs hb1 (v := .int .i64 0) (by go_simp) (by go_simp); have q1_b4 : w.heap.size < w1.heap.size := qlt k1_b4_0; have x1_b4 : ¬ w.heap.size = w1.heap.size := qne k1_b4_0; have y1_b4 : ¬ w1.heap.size = w.heap.size := fun h => qne k1_b4_0 h.symm; have q1_b5 : w.heap.size + 1 < w1.heap.size := qlt k1_b5_0; have x1_b5 : ¬ w.heap.size + 1 = w1.heap.size := qne k1_b5_0; have y1_b5 : ¬ w1.heap.size = w.heap.size + 1 := fun h => qne k1_b5_0 h.symm; have q1_b8 : w.heap.size + 1 + 1 < w1.heap.size := qlt k1_b8_0; have x1_b8 : ¬ w.heap.size + 1 + 1 = w1.heap.size := qne k1_b8_0; have y1_b8 : ¬ w1.heap.size = w.heap.size + 1 + 1 := fun h => qne k1_b8_0 h.symm; have B1 : Below w.heap.size w w1 := bel_step (by repeat (first | with_reducible exact Below.refl _ _ | fail | with_reducible apply below_drewN | with_reducible apply Below.drew | (with_reducible refine Below.alloc ?_ (by first | (simp; done) | (simp; omega) | omega) _) | (with_reducible refine Below.setCell ?_ (by first | (simp; done) | (simp; omega) | omega) _))) hb1; have z1 : w.heap.size + 1 + 1 + 1 ≤ w1.heap.size := Nat.le_trans (by first | with_reducible assumption | (simp; done) | (simp; omega)) hb1.size; clear hb1))
      refine bodyPost_ret (v := .agg #[.int .i64 (hold x), .int .i64 (hold y)]) (by simp [results, Try.results13, go_sem, *]) rfl ⟨rfl, ?_⟩
      repeat (first | with_reducible exact Below.refl _ _ | with_reducible exact B1 | with_reducible apply below_drewN | with_reducible apply Below.drew | (with_reducible refine Below.alloc ?_ (by first | (simp; done) | (simp; omega) | omega) _) | (with_reducible refine Below.setCell ?_ (by first | (simp; done) | (simp; omega) | omega) _))
  · have hd0 : 1 ≤ d := by omega
    have hd1 : d ≤ 1099511627776 := by omega
    rw [lerpV_in _ _ _ _ hd0 hd1, lerpV_in _ _ _ _ hd0 hd1]
    have cc : ∀ w, Calls Try.prog 33 #[.int .i64 n, .int .i64 0, .int .i64 d] w fun e w' => e = .returned (.int .i64 (clampV n 0 d)) ∧ Below w.heap.size w w' := fun w => (rclamp_any n 0 d w).mono (by rintro e w2 ⟨rfl, rfl⟩; exact ⟨rfl, Below.refl _ _⟩)
    obtain ⟨k, ek⟩ : ∃ k, clampV n 0 d = k := ⟨_, rfl⟩
    have hk := clampV_bd n 0 d (by omega)
    rw [ek] at cc hk ⊢
    clear ek hd
    obtain ⟨hk0, hk1⟩ := hk
    obtain ⟨px0, px1, px2, px3⟩ := rdiv_between k (hold u - hold x) d hd0 hd1 hk0 hk1 (by omega) (by omega)
    obtain ⟨py0, py1, py2, py3⟩ := rdiv_between k (hold v - hold y) d hd0 hd1 hk0 hk1 (by omega) (by omega)
    have rx : -2097152 ≤ mdrV (k * (hold u - hold x)) 1 d ∧ mdrV (k * (hold u - hold x)) 1 d ≤ 2097152 := by omega
    have ry : -2097152 ≤ mdrV (k * (hold v - hold y)) 1 d ∧ mdrV (k * (hold v - hold y)) 1 d ≤ 2097152 := by omega
    clear px2 px3 py2 py3
    have dx : ∀ w, Calls Try.prog 10 #[.int .i64 (k * (hold u - hold x)), .int .i64 d] w fun e w' => e = .returned (.int .i64 (mdrV (k * (hold u - hold x)) 1 d)) ∧ Below w.heap.size w w' := fun w => rdivr_any _ d (by omega) (by omega) (by omega) (by omega) w
    have dy : ∀ w, Calls Try.prog 10 #[.int .i64 (k * (hold v - hold y)), .int .i64 d] w fun e w' => e = .returned (.int .i64 (mdrV (k * (hold v - hold y)) 1 d)) ∧ Below w.heap.size w w' := fun w => rdivr_any _ d (by omega) (by omega) (by omega) (by omega) w
    have dk : ¬ d < 1 := by omega
    have dk2 : ¬ 1099511627776 < d := by omega
    go_enter Try.func13, Try.ntmps13
    go_wp2_with (first | (go_at_call 31; (with_reducible refine (hold_any x y _).mono ?_); rintro e w1 ⟨rfl, hb1⟩; have k1_b4_0 : w1.cell? ⟨w.heap.size, 0, none⟩ = some (.int .i64 x) := bcs hb1 (by go_simp); have g1_b4_0 : w1.frozen? ⟨w.heap.size, 0, none⟩ = false := bfs hb1 (v := .int .i64 x) (by go_simp) (by go_simp); have k1_b4_1 : w1.cell? ⟨w.heap.size, 1, none⟩ = some (.int .i64 y) := bcs hb1 (by go_simp); have g1_b4_1 : w1.frozen? ⟨w.heap.size, 1, none⟩ = false := bfs hb1 (v := .int .i64 y) (by go_simp) (by go_simp); have k1_b5_0 : w1.cell? ⟨w.heap.size + 1, 0, none⟩ = some (.int .i64 u) := bcs hb1 (by go_simp); have g1_b5_0 : w1.frozen? ⟨w.heap.size + 1, 0, none⟩ = false := bfs hb1 (v := .int .i64 u) (by go_simp) (by go_simp); have k1_b5_1 : w1.cell? ⟨w.heap.size + 1, 1, none⟩ = some (.int .i64 v) := bcs hb1 (by go_simp); have g1_b5_1 : w1.frozen? ⟨w.heap.size + 1, 1, none⟩ = false := bfs hb1 (v := .int .i64 v) (by go_simp) (by go_simp); have k1_b8_0 : w1.cell? ⟨w.heap.size + 1 + 1, 0, none⟩ = some (.int .i64 0) := bcs hb1 (by go_simp); have g1_b8_0 : w1.frozen? ⟨w.heap.size + 1 + 1, 0, none⟩ = false := bfs hb1 (v := .int .i64 0) (by go_simp) (by go_simp); have k1_b8_1 : w1.cell? ⟨w.heap.size + 1 + 1, 1, none⟩ = some (.int .i64 0) := bcs hb1 (by go_simp); have g1_b8_1 : w1.frozen? ⟨w.heap.size + 1 + 1, 1, none⟩ = false := bfs hb1 (v := .int .i64 0) (by go_simp) (by go_simp); have q1_b4 : w.heap.size < w1.heap.size := qlt k1_b4_0; have x1_b4 : ¬ w.heap.size = w1.heap.size := qne k1_b4_0; have y1_b4 : ¬ w1.heap.size = w.heap.size := fun h => qne k1_b4_0 h.symm; have q1_b5 : w.heap.size + 1 < w1.heap.size := qlt k1_b5_0; have x1_b5 : ¬ w.heap.size + 1 = w1.heap.size := qne k1_b5_0; have y1_b5 : ¬ w1.heap.size = w.heap.size + 1 := fun h => qne k1_b5_0 h.symm; have q1_b8 : w.heap.size + 1 + 1 < w1.heap.size := qlt k1_b8_0; have x1_b8 : ¬ w.heap.size + 1 + 1 = w1.heap.size := qne k1_b8_0; have y1_b8 : ¬ w1.heap.size = w.heap.size + 1 + 1 := fun h => qne k1_b8_0 h.symm; have B1 : Below w.heap.size w w1 := bel_step (by repeat (first | with_reducible exact Below.refl _ _ | fail | with_reducible apply below_drewN | with_reducible apply Below.drew | (with_reducible refine Below.alloc ?_ (by first | (simp; done) | (simp; omega) | omega) _) | (with_reducible refine Below.setCell ?_ (by first | (simp; done) | (simp; omega) | omega) _))) hb1; have z1 : w.heap.size + 1 + 1 + 1 ≤ w1.heap.size := Nat.le_trans (by first | with_reducible assumption | (simp; done) | (simp; omega)) hb1.size; clear hb1) | (go_at_call 32; (with_reducible refine (rsub_any u v x y _).mono ?_); rintro e w2 ⟨rfl, hb2⟩; have k2_b4_0 : w2.cell? ⟨w.heap.size, 0, none⟩ = some (.int .i64 x) := bcs hb2 (by go_simp); have g2_b4_0 : w2.frozen? ⟨w.heap.size, 0, none⟩ = false := bfs hb2 (v := .int .i64 x) (by go_simp) (by go_simp); have k2_b4_1 : w2.cell? ⟨w.heap.size, 1, none⟩ = some (.int .i64 y) := bcs hb2 (by go_simp); have g2_b4_1 : w2.frozen? ⟨w.heap.size, 1, none⟩ = false := bfs hb2 (v := .int .i64 y) (by go_simp) (by go_simp); have k2_b5_0 : w2.cell? ⟨w.heap.size + 1, 0, none⟩ = some (.int .i64 u) := bcs hb2 (by go_simp); have g2_b5_0 : w2.frozen? ⟨w.heap.size + 1, 0, none⟩ = false := bfs hb2 (v := .int .i64 u) (by go_simp) (by go_simp); have k2_b5_1 : w2.cell? ⟨w.heap.size + 1, 1, none⟩ = some (.int .i64 v) := bcs hb2 (by go_simp); have g2_b5_1 : w2.frozen? ⟨w.heap.size + 1, 1, none⟩ = false := bfs hb2 (v := .int .i64 v) (by go_simp) (by go_simp); have k2_b8_0 : w2.cell? ⟨w.heap.size + 1 + 1, 0, none⟩ = some (.int .i64 0) := bcs hb2 (by go_simp); have g2_b8_0 : w2.frozen? ⟨w.heap.size + 1 + 1, 0, none⟩ = false := bfs hb2 (v := .int .i64 0) (by go_simp) (by go_simp); have k2_b8_1 : w2.cell? ⟨w.heap.size + 1 + 1, 1, none⟩ = some (.int .i64 0) := bcs hb2 (by go_simp); have g2_b8_1 : w2.frozen? ⟨w.heap.size + 1 + 1, 1, none⟩ = false := bfs hb2 (v := .int .i64 0) (by go_simp) (by go_simp); have k2_g9_0 : w2.cell? ⟨w1.heap.size, 0, none⟩ = some (.int .i64 (hold x)) := bcs hb2 (by go_simp); have g2_g9_0 : w2.frozen? ⟨w1.heap.size, 0, none⟩ = false := bfs hb2 (v := .int .i64 (hold x)) (by go_simp) (by go_simp); have k2_g9_1 : w2.cell? ⟨w1.heap.size, 1, none⟩ = some (.int .i64 (hold y)) := bcs hb2 (by go_simp); have g2_g9_1 : w2.frozen? ⟨w1.heap.size, 1, none⟩ = false := bfs hb2 (v := .int .i64 (hold y)) (by go_simp) (by go_simp); have q2_b4 : w.heap.size < w2.heap.size := qlt k2_b4_0; have x2_b4 : ¬ w.heap.size = w2.heap.size := qne k2_b4_0; have y2_b4 : ¬ w2.heap.size = w.heap.size := fun h => qne k2_b4_0 h.symm; have q2_b5 : w.heap.size + 1 < w2.heap.size := qlt k2_b5_0; have x2_b5 : ¬ w.heap.size + 1 = w2.heap.size := qne k2_b5_0; have y2_b5 : ¬ w2.heap.size = w.heap.size + 1 := fun h => qne k2_b5_0 h.symm; have q2_b8 : w.heap.size + 1 + 1 < w2.heap.size := qlt k2_b8_0; have x2_b8 : ¬ w.heap.size + 1 + 1 = w2.heap.size := qne k2_b8_0; have y2_b8 : ¬ w2.heap.size = w.heap.size + 1 + 1 := fun h => qne k2_b8_0 h.symm; have q2_g9 : w1.heap.size < w2.heap.size := qlt k2_g9_0; have x2_g9 : ¬ w1.heap.size = w2.heap.size := qne k2_g9_0; have y2_g9 : ¬ w2.heap.size = w1.heap.size := fun h => qne k2_g9_0 h.symm; have B2 : Below w.heap.size w w2 := bel_step (by repeat (first | with_reducible exact Below.refl _ _ | with_reducible exact B1 | with_reducible apply below_drewN | with_reducible apply Below.drew | (with_reducible refine Below.alloc ?_ (by first | (simp; done) | (simp; omega) | omega) _) | (with_reducible refine Below.setCell ?_ (by first | (simp; done) | (simp; omega) | omega) _))) hb2; have z2 : w.heap.size + 1 + 1 + 1 ≤ w2.heap.size := Nat.le_trans (by first | with_reducible assumption | (simp; done) | (simp; omega)) hb2.size; clear hb2; (try clear k1_b4_0); (try clear g1_b4_0); (try clear k1_b4_1); (try clear g1_b4_1); (try clear k1_b5_0); (try clear g1_b5_0); (try clear k1_b5_1); (try clear g1_b5_1); (try clear k1_b8_0); (try clear g1_b8_0); (try clear k1_b8_1); (try clear g1_b8_1); (try clear k1_g9_0); (try clear g1_g9_0); (try clear k1_g9_1); (try clear g1_g9_1); (try clear B1); (try clear z1)) | (go_at_call 33; (with_reducible refine (cc _).mono ?_); rintro e w3 ⟨rfl, hb3⟩; have k3_b4_0 : w3.cell? ⟨w.heap.size, 0, none⟩ = some (.int .i64 x) := bcs hb3 (by go_simp); have g3_b4_0 : w3.frozen? ⟨w.heap.size, 0, none⟩ = false := bfs hb3 (v := .int .i64 x) (by go_simp) (by go_simp); have k3_b4_1 : w3.cell? ⟨w.heap.size, 1, none⟩ = some (.int .i64 y) := bcs hb3 (by go_simp); have g3_b4_1 : w3.frozen? ⟨w.heap.size, 1, none⟩ = false := bfs hb3 (v := .int .i64 y) (by go_simp) (by go_simp); have k3_b5_0 : w3.cell? ⟨w.heap.size + 1, 0, none⟩ = some (.int .i64 u) := bcs hb3 (by go_simp); have g3_b5_0 : w3.frozen? ⟨w.heap.size + 1, 0, none⟩ = false := bfs hb3 (v := .int .i64 u) (by go_simp) (by go_simp); have k3_b5_1 : w3.cell? ⟨w.heap.size + 1, 1, none⟩ = some (.int .i64 v) := bcs hb3 (by go_simp); have g3_b5_1 : w3.frozen? ⟨w.heap.size + 1, 1, none⟩ = false := bfs hb3 (v := .int .i64 v) (by go_simp) (by go_simp); have k3_b8_0 : w3.cell? ⟨w.heap.size + 1 + 1, 0, none⟩ = some (.int .i64 0) := bcs hb3 (by go_simp); have g3_b8_0 : w3.frozen? ⟨w.heap.size + 1 + 1, 0, none⟩ = false := bfs hb3 (v := .int .i64 0) (by go_simp) (by go_simp); have k3_b8_1 : w3.cell? ⟨w.heap.size + 1 + 1, 1, none⟩ = some (.int .i64 0) := bcs hb3 (by go_simp); have g3_b8_1 : w3.frozen? ⟨w.heap.size + 1 + 1, 1, none⟩ = false := bfs hb3 (v := .int .i64 0) (by go_simp) (by go_simp); have k3_g9_0 : w3.cell? ⟨w1.heap.size, 0, none⟩ = some (.int .i64 (hold x)) := bcs hb3 (by go_simp); have g3_g9_0 : w3.frozen? ⟨w1.heap.size, 0, none⟩ = false := bfs hb3 (v := .int .i64 (hold x)) (by go_simp) (by go_simp); have k3_g9_1 : w3.cell? ⟨w1.heap.size, 1, none⟩ = some (.int .i64 (hold y)) := bcs hb3 (by go_simp); have g3_g9_1 : w3.frozen? ⟨w1.heap.size, 1, none⟩ = false := bfs hb3 (v := .int .i64 (hold y)) (by go_simp) (by go_simp); have k3_g10_0 : w3.cell? ⟨w2.heap.size, 0, none⟩ = some (.int .i64 (hold u - hold x)) := bcs hb3 (by go_simp); have g3_g10_0 : w3.frozen? ⟨w2.heap.size, 0, none⟩ = false := bfs hb3 (v := .int .i64 (hold u - hold x)) (by go_simp) (by go_simp); have k3_g10_1 : w3.cell? ⟨w2.heap.size, 1, none⟩ = some (.int .i64 (hold v - hold y)) := bcs hb3 (by go_simp); have g3_g10_1 : w3.frozen? ⟨w2.heap.size, 1, none⟩ = false := bfs hb3 (v := .int .i64 (hold v - hold y)) (by go_simp) (by go_simp); have q3_b4 : w.heap.size < w3.heap.size := qlt k3_b4_0; have x3_b4 : ¬ w.heap.size = w3.heap.size := qne k3_b4_0; have y3_b4 : ¬ w3.heap.size = w.heap.size := fun h => qne k3_b4_0 h.symm; have q3_b5 : w.heap.size + 1 < w3.heap.size := qlt k3_b5_0; have x3_b5 : ¬ w.heap.size + 1 = w3.heap.size := qne k3_b5_0; have y3_b5 : ¬ w3.heap.size = w.heap.size + 1 := fun h => qne k3_b5_0 h.symm; have q3_b8 : w.heap.size + 1 + 1 < w3.heap.size := qlt k3_b8_0; have x3_b8 : ¬ w.heap.size + 1 + 1 = w3.heap.size := qne k3_b8_0; have y3_b8 : ¬ w3.heap.size = w.heap.size + 1 + 1 := fun h => qne k3_b8_0 h.symm; have q3_g9 : w1.heap.size < w3.heap.size := qlt k3_g9_0; have x3_g9 : ¬ w1.heap.size = w3.heap.size := qne k3_g9_0; have y3_g9 : ¬ w3.heap.size = w1.heap.size := fun h => qne k3_g9_0 h.symm; have q3_g10 : w2.heap.size < w3.heap.size := qlt k3_g10_0; have x3_g10 : ¬ w2.heap.size = w3.heap.size := qne k3_g10_0; have y3_g10 : ¬ w3.heap.size = w2.heap.size := fun h => qne k3_g10_0 h.symm; have B3 : Below w.heap.size w w3 := bel_step (by repeat (first | with_reducible exact Below.refl _ _ | with_reducible exact B2 | with_reducible apply below_drewN | with_reducible apply Below.drew | (with_reducible refine Below.alloc ?_ (by first | (simp; done) | (simp; omega) | omega) _) | (with_reducible refine Below.setCell ?_ (by first | (simp; done) | (simp; omega) | omega) _))) hb3; have z3 : w.heap.size + 1 + 1 + 1 ≤ w3.heap.size := Nat.le_trans (by first | with_reducible assumption | (simp; done) | (simp; omega)) hb3.size; clear hb3; (try clear k2_b4_0); (try clear g2_b4_0); (try clear k2_b4_1); (try clear g2_b4_1); (try clear k2_b5_0); (try clear g2_b5_0); (try clear k2_b5_1); (try clear g2_b5_1); (try clear k2_b8_0); (try clear g2_b8_0); (try clear k2_b8_1); (try clear g2_b8_1); (try clear k2_g9_0); (try clear g2_g9_0); (try clear k2_g9_1); (try clear g2_g9_1); (try clear k2_g10_0); (try clear g2_g10_0); (try clear k2_g10_1); (try clear g2_g10_1); (try clear B2); (try clear z2)))
    refine wp_region_env (fun w' => w'.cell? ⟨w.heap.size, 0, none⟩ = some (.int .i64 x) ∧ w'.frozen? ⟨w.heap.size, 0, none⟩ = false ∧ w'.cell? ⟨w.heap.size, 1, none⟩ = some (.int .i64 y) ∧ w'.frozen? ⟨w.heap.size, 1, none⟩ = false ∧ w'.cell? ⟨w.heap.size + 1, 0, none⟩ = some (.int .i64 u) ∧ w'.frozen? ⟨w.heap.size + 1, 0, none⟩ = false ∧ w'.cell? ⟨w.heap.size + 1, 1, none⟩ = some (.int .i64 v) ∧ w'.frozen? ⟨w.heap.size + 1, 1, none⟩ = false ∧ w'.cell? ⟨w.heap.size + 1 + 1, 0, none⟩ = some (.int .i64 0) ∧ w'.frozen? ⟨w.heap.size + 1 + 1, 0, none⟩ = false ∧ w'.cell? ⟨w.heap.size + 1 + 1, 1, none⟩ = some (.int .i64 0) ∧ w'.frozen? ⟨w.heap.size + 1 + 1, 1, none⟩ = false ∧ w'.cell? ⟨w1.heap.size, 0, none⟩ = some (.int .i64 (hold x)) ∧ w'.frozen? ⟨w1.heap.size, 0, none⟩ = false ∧ w'.cell? ⟨w1.heap.size, 1, none⟩ = some (.int .i64 (hold y)) ∧ w'.frozen? ⟨w1.heap.size, 1, none⟩ = false ∧ w'.cell? ⟨w2.heap.size, 0, none⟩ = some (.int .i64 (hold u - hold x)) ∧ w'.frozen? ⟨w2.heap.size, 0, none⟩ = false ∧ w'.cell? ⟨w2.heap.size, 1, none⟩ = some (.int .i64 (hold v - hold y)) ∧ w'.frozen? ⟨w2.heap.size, 1, none⟩ = false) (fun W => W.cell? ⟨w.heap.size, 0, none⟩ = some (.int .i64 x) ∧ W.frozen? ⟨w.heap.size, 0, none⟩ = false ∧ W.cell? ⟨w.heap.size, 1, none⟩ = some (.int .i64 y) ∧ W.frozen? ⟨w.heap.size, 1, none⟩ = false ∧ W.cell? ⟨w.heap.size + 1, 0, none⟩ = some (.int .i64 u) ∧ W.frozen? ⟨w.heap.size + 1, 0, none⟩ = false ∧ W.cell? ⟨w.heap.size + 1, 1, none⟩ = some (.int .i64 v) ∧ W.frozen? ⟨w.heap.size + 1, 1, none⟩ = false ∧ W.cell? ⟨w.heap.size + 1 + 1, 0, none⟩ = some (.int .i64 0) ∧ W.frozen? ⟨w.heap.size + 1 + 1, 0, none⟩ = false ∧ W.cell? ⟨w.heap.size + 1 + 1, 1, none⟩ = some (.int .i64 0) ∧ W.frozen? ⟨w.heap.size + 1 + 1, 1, none⟩ = false ∧ W.cell? ⟨w1.heap.size, 0, none⟩ = some (.int .i64 (hold x)) ∧ W.frozen? ⟨w1.heap.size, 0, none⟩ = false ∧ W.cell? ⟨w1.heap.size, 1, none⟩ = some (.int .i64 (hold y)) ∧ W.frozen? ⟨w1.heap.size, 1, none⟩ = false ∧ W.cell? ⟨w2.heap.size, 0, none⟩ = some (.int .i64 (hold u - hold x)) ∧ W.frozen? ⟨w2.heap.size, 0, none⟩ = false ∧ W.cell? ⟨w2.heap.size, 1, none⟩ = some (.int .i64 (hold v - hold y)) ∧ W.frozen? ⟨w2.heap.size, 1, none⟩ = false ∧ Below w.heap.size w W ∧ w.heap.size + 1 + 1 + 1 ≤ W.heap.size) 19 46 [.val (.pointer (some ⟨w1.heap.size, 0, none⟩)), .val (.int .i64 (hold x)), .val (.int .i64 k), .val (.pointer (some ⟨w2.heap.size, 0, none⟩)), .val (.int .i64 (hold u - hold x)), .val (.int .i64 (k * (hold u - hold x))), .val (.int .i64 d), .call 10 #[.int .i64 (k * (hold u - hold x)), .int .i64 d] (.int .i64 (mdrV (k * (hold u - hold x)) 1 d)), .val (.int .i64 (hold x + mdrV (k * (hold u - hold x)) 1 d)), .val (.pointer (some ⟨w1.heap.size, 1, none⟩)), .val (.int .i64 (hold y)), .val (.int .i64 k), .val (.pointer (some ⟨w2.heap.size, 1, none⟩)), .val (.int .i64 (hold v - hold y)), .val (.int .i64 (k * (hold v - hold y))), .val (.int .i64 d), .call 10 #[.int .i64 (k * (hold v - hold y)), .int .i64 d] (.int .i64 (mdrV (k * (hold v - hold y)) 1 d)), .val (.int .i64 (hold y + mdrV (k * (hold v - hold y)) 1 d)), .val (.agg #[.int .i64 (hold x + mdrV (k * (hold u - hold x)) 1 d), .int .i64 (hold y + mdrV (k * (hold v - hold y)) 1 d)])] (by kernel_rfl) (by kernel_rfl) rfl (by kernel_rfl) (by rintro w1 w2 ⟨h0, h1, h2, h3, h4, h5, h6, h7, h8, h9, h10, h11, h12, h13, h14, h15, h16, h17, h18, h19⟩ hb; exact ⟨bcs hb h0, bfs hb h0 h1, bcs hb h2, bfs hb h2 h3, bcs hb h4, bfs hb h4 h5, bcs hb h6, bfs hb h6 h7, bcs hb h8, bfs hb h8 h9, bcs hb h10, bfs hb h10 h11, bcs hb h12, bfs hb h12 h13, bcs hb h14, bfs hb h14 h15, bcs hb h16, bfs hb h16 h17, bcs hb h18, bfs hb h18 h19⟩) ⟨by first | with_reducible assumption | go_simp, by first | with_reducible assumption | go_simp, by first | with_reducible assumption | go_simp, by first | with_reducible assumption | go_simp, by first | with_reducible assumption | go_simp, by first | with_reducible assumption | go_simp, by first | with_reducible assumption | go_simp, by first | with_reducible assumption | go_simp, by first | with_reducible assumption | go_simp, by first | with_reducible assumption | go_simp, by first | with_reducible assumption | go_simp, by first | with_reducible assumption | go_simp, by first | with_reducible assumption | go_simp, by first | with_reducible assumption | go_simp, by first | with_reducible assumption | go_simp, by first | with_reducible assumption | go_simp, by first | with_reducible assumption | go_simp, by first | with_reducible assumption | go_simp, by first | with_reducible assumption | go_simp, by first | with_reducible assumption | go_simp, by repeat (first | with_reducible exact Below.refl _ _ | with_reducible exact B3 | with_reducible apply below_drewN | with_reducible apply Below.drew | (with_reducible refine Below.alloc ?_ (by first | (simp; done) | (simp; omega) | omega) _) | (with_reducible refine Below.setCell ?_ (by first | (simp; done) | (simp; omega) | omega) _)), by first | with_reducible assumption | (simp; done) | (simp; omega)⟩ ?_ ?_
    · rintro W ⟨k4_b4_0, g4_b4_0, k4_b4_1, g4_b4_1, k4_b5_0, g4_b5_0, k4_b5_1, g4_b5_1, k4_b8_0, g4_b8_0, k4_b8_1, g4_b8_1, k4_g9_0, g4_g9_0, k4_g9_1, g4_g9_1, k4_g10_0, g4_g10_0, k4_g10_1, g4_g10_1, B4, z4⟩; exact ⟨k4_b4_0, g4_b4_0, k4_b4_1, g4_b4_1, k4_b5_0, g4_b5_0, k4_b5_1, g4_b5_1, k4_b8_0, g4_b8_0, k4_b8_1, g4_b8_1, k4_g9_0, g4_g9_0, k4_g9_1, g4_g9_1, k4_g10_0, g4_g10_0, k4_g10_1, g4_g10_1⟩
    (try clear B3)
    (try clear z3)
    (try clear k3_b4_0)
    (try clear g3_b4_0)
    (try clear k3_b4_1)
    (try clear g3_b4_1)
    (try clear k3_b5_0)
    (try clear g3_b5_0)
    (try clear k3_b5_1)
    (try clear g3_b5_1)
    (try clear k3_b8_0)
    (try clear g3_b8_0)
    (try clear k3_b8_1)
    (try clear g3_b8_1)
    (try clear k3_g9_0)
    (try clear g3_g9_0)
    (try clear k3_g9_1)
    (try clear g3_g9_1)
    (try clear k3_g10_0)
    (try clear g3_g10_0)
    (try clear k3_g10_1)
    (try clear g3_g10_1)
    (try clear q3_b4)
    (try clear x3_b4)
    (try clear y3_b4)
    (try clear q3_b5)
    (try clear x3_b5)
    (try clear y3_b5)
    (try clear q3_b8)
    (try clear x3_b8)
    (try clear y3_b8)
    (try clear q3_g9)
    (try clear x3_g9)
    (try clear y3_g9)
    (try clear q3_g10)
    (try clear x3_g10)
    (try clear y3_g10)
    rintro w4 ⟨k4_b4_0, g4_b4_0, k4_b4_1, g4_b4_1, k4_b5_0, g4_b5_0, k4_b5_1, g4_b5_1, k4_b8_0, g4_b8_0, k4_b8_1, g4_b8_1, k4_g9_0, g4_g9_0, k4_g9_1, g4_g9_1, k4_g10_0, g4_g10_0, k4_g10_1, g4_g10_1, B4, z4⟩ gg
    simp only [List.take_succ_cons, List.take_zero, List.drop_succ_cons, List.drop_zero, List.cons_append, List.nil_append, List.append_nil]
    refine obe_val (by rfl) ?_ ?_
    · clear k4_b4_0 g4_b4_0 k4_b4_1 g4_b4_1 k4_b5_0 g4_b5_0 k4_b5_1 g4_b5_1 k4_b8_0 g4_b8_0 k4_b8_1 g4_b8_1 k4_g9_0 g4_g9_0 k4_g9_1 g4_g9_1 k4_g10_0 g4_g10_0 k4_g10_1 g4_g10_1 B4 z4; intro f hf; have u9 : f 9 = (.pointer (some ⟨w1.heap.size, 0, none⟩)) := (by rw [← hf]; rfl); clear hf; rintro w' ⟨h0, h1, h2, h3, h4, h5, h6, h7, h8, h9, h10, h11, h12, h13, h14, h15, h16, h17, h18, h19⟩; go_simp; try exact IntWalk.i64_in _ (by omega)
    refine obe_val (by rfl) ?_ ?_
    · clear k4_b4_0 g4_b4_0 k4_b4_1 g4_b4_1 k4_b5_0 g4_b5_0 k4_b5_1 g4_b5_1 k4_b8_0 g4_b8_0 k4_b8_1 g4_b8_1 k4_g9_0 g4_g9_0 k4_g9_1 g4_g9_1 k4_g10_0 g4_g10_0 k4_g10_1 g4_g10_1 B4 z4; intro f hf; have u27 : f 27 = (.pointer (some ⟨w1.heap.size, 0, none⟩)) := (by rw [← hf]; rfl); clear hf; rintro w' ⟨h0, h1, h2, h3, h4, h5, h6, h7, h8, h9, h10, h11, h12, h13, h14, h15, h16, h17, h18, h19⟩; go_simp; try exact IntWalk.i64_in _ (by omega)
    refine obe_val (by rfl) ?_ ?_
    · clear k4_b4_0 g4_b4_0 k4_b4_1 g4_b4_1 k4_b5_0 g4_b5_0 k4_b5_1 g4_b5_1 k4_b8_0 g4_b8_0 k4_b8_1 g4_b8_1 k4_g9_0 g4_g9_0 k4_g9_1 g4_g9_1 k4_g10_0 g4_g10_0 k4_g10_1 g4_g10_1 B4 z4; intro f hf; have u11 : f 11 = (.int .i64 k) := (by rw [← hf]; rfl); clear hf; rintro w' ⟨h0, h1, h2, h3, h4, h5, h6, h7, h8, h9, h10, h11, h12, h13, h14, h15, h16, h17, h18, h19⟩; go_simp; try exact IntWalk.i64_in _ (by omega)
    refine obe_val (by rfl) ?_ ?_
    · clear k4_b4_0 g4_b4_0 k4_b4_1 g4_b4_1 k4_b5_0 g4_b5_0 k4_b5_1 g4_b5_1 k4_b8_0 g4_b8_0 k4_b8_1 g4_b8_1 k4_g9_0 g4_g9_0 k4_g9_1 g4_g9_1 k4_g10_0 g4_g10_0 k4_g10_1 g4_g10_1 B4 z4; intro f hf; have u10 : f 10 = (.pointer (some ⟨w2.heap.size, 0, none⟩)) := (by rw [← hf]; rfl); clear hf; rintro w' ⟨h0, h1, h2, h3, h4, h5, h6, h7, h8, h9, h10, h11, h12, h13, h14, h15, h16, h17, h18, h19⟩; go_simp; try exact IntWalk.i64_in _ (by omega)
    refine obe_val (by rfl) ?_ ?_
    · clear k4_b4_0 g4_b4_0 k4_b4_1 g4_b4_1 k4_b5_0 g4_b5_0 k4_b5_1 g4_b5_1 k4_b8_0 g4_b8_0 k4_b8_1 g4_b8_1 k4_g9_0 g4_g9_0 k4_g9_1 g4_g9_1 k4_g10_0 g4_g10_0 k4_g10_1 g4_g10_1 B4 z4; intro f hf; have u30 : f 30 = (.pointer (some ⟨w2.heap.size, 0, none⟩)) := (by rw [← hf]; rfl); clear hf; rintro w' ⟨h0, h1, h2, h3, h4, h5, h6, h7, h8, h9, h10, h11, h12, h13, h14, h15, h16, h17, h18, h19⟩; go_simp; try exact IntWalk.i64_in _ (by omega)
    refine obe_val (by rfl) ?_ ?_
    · clear k4_b4_0 g4_b4_0 k4_b4_1 g4_b4_1 k4_b5_0 g4_b5_0 k4_b5_1 g4_b5_1 k4_b8_0 g4_b8_0 k4_b8_1 g4_b8_1 k4_g9_0 g4_g9_0 k4_g9_1 g4_g9_1 k4_g10_0 g4_g10_0 k4_g10_1 g4_g10_1 B4 z4; intro f hf; have u29 : f 29 = (.int .i64 k) := (by rw [← hf]; rfl); have u31 : f 31 = (.int .i64 (hold u - hold x)) := (by rw [← hf]; rfl); clear hf; rintro w' ⟨h0, h1, h2, h3, h4, h5, h6, h7, h8, h9, h10, h11, h12, h13, h14, h15, h16, h17, h18, h19⟩; go_simp; try exact IntWalk.i64_in _ (by omega)
    refine obe_val (by rfl) ?_ ?_
    · clear k4_b4_0 g4_b4_0 k4_b4_1 g4_b4_1 k4_b5_0 g4_b5_0 k4_b5_1 g4_b5_1 k4_b8_0 g4_b8_0 k4_b8_1 g4_b8_1 k4_g9_0 g4_g9_0 k4_g9_1 g4_g9_1 k4_g10_0 g4_g10_0 k4_g10_1 g4_g10_1 B4 z4; intro f hf; have u3 : f 3 = (.int .i64 d) := (by rw [← hf]; rfl); clear hf; rintro w' ⟨h0, h1, h2, h3, h4, h5, h6, h7, h8, h9, h10, h11, h12, h13, h14, h15, h16, h17, h18, h19⟩; go_simp; try exact IntWalk.i64_in _ (by omega)
    refine obe_call (by rfl) ?_ ?_ ?_
    · clear k4_b4_0 g4_b4_0 k4_b4_1 g4_b4_1 k4_b5_0 g4_b5_0 k4_b5_1 g4_b5_1 k4_b8_0 g4_b8_0 k4_b8_1 g4_b8_1 k4_g9_0 g4_g9_0 k4_g9_1 g4_g9_1 k4_g10_0 g4_g10_0 k4_g10_1 g4_g10_1 B4 z4; intro f hf; have u32 : f 32 = (.int .i64 (k * (hold u - hold x))) := (by rw [← hf]; rfl); have u33 : f 33 = (.int .i64 d) := (by rw [← hf]; rfl); clear hf; intro w' _; simp only [execOp, resolve, invoke, rhoF_tmp, rhoF_func, rhoF_const, u32, u33, List.map_toArray, List.map_cons, List.map_nil]; go_simp
    · clear k4_b4_0 g4_b4_0 k4_b4_1 g4_b4_1 k4_b5_0 g4_b5_0 k4_b5_1 g4_b5_1 k4_b8_0 g4_b8_0 k4_b8_1 g4_b8_1 k4_g9_0 g4_g9_0 k4_g9_1 g4_g9_1 k4_g10_0 g4_g10_0 k4_g10_1 g4_g10_1 B4 z4; rintro w' ⟨h0, h1, h2, h3, h4, h5, h6, h7, h8, h9, h10, h11, h12, h13, h14, h15, h16, h17, h18, h19⟩; exact dx _
    refine obe_val (by rfl) ?_ ?_
    · clear k4_b4_0 g4_b4_0 k4_b4_1 g4_b4_1 k4_b5_0 g4_b5_0 k4_b5_1 g4_b5_1 k4_b8_0 g4_b8_0 k4_b8_1 g4_b8_1 k4_g9_0 g4_g9_0 k4_g9_1 g4_g9_1 k4_g10_0 g4_g10_0 k4_g10_1 g4_g10_1 B4 z4; intro f hf; have u28 : f 28 = (.int .i64 (hold x)) := (by rw [← hf]; rfl); have u34 : f 34 = (.int .i64 (mdrV (k * (hold u - hold x)) 1 d)) := (by rw [← hf]; rfl); clear hf; rintro w' ⟨h0, h1, h2, h3, h4, h5, h6, h7, h8, h9, h10, h11, h12, h13, h14, h15, h16, h17, h18, h19⟩; go_simp; try exact IntWalk.i64_in _ (by omega)
    refine obe_val (by rfl) ?_ ?_
    · clear k4_b4_0 g4_b4_0 k4_b4_1 g4_b4_1 k4_b5_0 g4_b5_0 k4_b5_1 g4_b5_1 k4_b8_0 g4_b8_0 k4_b8_1 g4_b8_1 k4_g9_0 g4_g9_0 k4_g9_1 g4_g9_1 k4_g10_0 g4_g10_0 k4_g10_1 g4_g10_1 B4 z4; intro f hf; have u9 : f 9 = (.pointer (some ⟨w1.heap.size, 0, none⟩)) := (by rw [← hf]; rfl); clear hf; rintro w' ⟨h0, h1, h2, h3, h4, h5, h6, h7, h8, h9, h10, h11, h12, h13, h14, h15, h16, h17, h18, h19⟩; go_simp; try exact IntWalk.i64_in _ (by omega)
    refine obe_val (by rfl) ?_ ?_
    · clear k4_b4_0 g4_b4_0 k4_b4_1 g4_b4_1 k4_b5_0 g4_b5_0 k4_b5_1 g4_b5_1 k4_b8_0 g4_b8_0 k4_b8_1 g4_b8_1 k4_g9_0 g4_g9_0 k4_g9_1 g4_g9_1 k4_g10_0 g4_g10_0 k4_g10_1 g4_g10_1 B4 z4; intro f hf; have u36 : f 36 = (.pointer (some ⟨w1.heap.size, 1, none⟩)) := (by rw [← hf]; rfl); clear hf; rintro w' ⟨h0, h1, h2, h3, h4, h5, h6, h7, h8, h9, h10, h11, h12, h13, h14, h15, h16, h17, h18, h19⟩; go_simp; try exact IntWalk.i64_in _ (by omega)
    refine obe_val (by rfl) ?_ ?_
    · clear k4_b4_0 g4_b4_0 k4_b4_1 g4_b4_1 k4_b5_0 g4_b5_0 k4_b5_1 g4_b5_1 k4_b8_0 g4_b8_0 k4_b8_1 g4_b8_1 k4_g9_0 g4_g9_0 k4_g9_1 g4_g9_1 k4_g10_0 g4_g10_0 k4_g10_1 g4_g10_1 B4 z4; intro f hf; have u11 : f 11 = (.int .i64 k) := (by rw [← hf]; rfl); clear hf; rintro w' ⟨h0, h1, h2, h3, h4, h5, h6, h7, h8, h9, h10, h11, h12, h13, h14, h15, h16, h17, h18, h19⟩; go_simp; try exact IntWalk.i64_in _ (by omega)
    refine obe_val (by rfl) ?_ ?_
    · clear k4_b4_0 g4_b4_0 k4_b4_1 g4_b4_1 k4_b5_0 g4_b5_0 k4_b5_1 g4_b5_1 k4_b8_0 g4_b8_0 k4_b8_1 g4_b8_1 k4_g9_0 g4_g9_0 k4_g9_1 g4_g9_1 k4_g10_0 g4_g10_0 k4_g10_1 g4_g10_1 B4 z4; intro f hf; have u10 : f 10 = (.pointer (some ⟨w2.heap.size, 0, none⟩)) := (by rw [← hf]; rfl); clear hf; rintro w' ⟨h0, h1, h2, h3, h4, h5, h6, h7, h8, h9, h10, h11, h12, h13, h14, h15, h16, h17, h18, h19⟩; go_simp; try exact IntWalk.i64_in _ (by omega)
    refine obe_val (by rfl) ?_ ?_
    · clear k4_b4_0 g4_b4_0 k4_b4_1 g4_b4_1 k4_b5_0 g4_b5_0 k4_b5_1 g4_b5_1 k4_b8_0 g4_b8_0 k4_b8_1 g4_b8_1 k4_g9_0 g4_g9_0 k4_g9_1 g4_g9_1 k4_g10_0 g4_g10_0 k4_g10_1 g4_g10_1 B4 z4; intro f hf; have u39 : f 39 = (.pointer (some ⟨w2.heap.size, 1, none⟩)) := (by rw [← hf]; rfl); clear hf; rintro w' ⟨h0, h1, h2, h3, h4, h5, h6, h7, h8, h9, h10, h11, h12, h13, h14, h15, h16, h17, h18, h19⟩; go_simp; try exact IntWalk.i64_in _ (by omega)
    refine obe_val (by rfl) ?_ ?_
    · clear k4_b4_0 g4_b4_0 k4_b4_1 g4_b4_1 k4_b5_0 g4_b5_0 k4_b5_1 g4_b5_1 k4_b8_0 g4_b8_0 k4_b8_1 g4_b8_1 k4_g9_0 g4_g9_0 k4_g9_1 g4_g9_1 k4_g10_0 g4_g10_0 k4_g10_1 g4_g10_1 B4 z4; intro f hf; have u38 : f 38 = (.int .i64 k) := (by rw [← hf]; rfl); have u40 : f 40 = (.int .i64 (hold v - hold y)) := (by rw [← hf]; rfl); clear hf; rintro w' ⟨h0, h1, h2, h3, h4, h5, h6, h7, h8, h9, h10, h11, h12, h13, h14, h15, h16, h17, h18, h19⟩; go_simp; try exact IntWalk.i64_in _ (by omega)
    refine obe_val (by rfl) ?_ ?_
    · clear k4_b4_0 g4_b4_0 k4_b4_1 g4_b4_1 k4_b5_0 g4_b5_0 k4_b5_1 g4_b5_1 k4_b8_0 g4_b8_0 k4_b8_1 g4_b8_1 k4_g9_0 g4_g9_0 k4_g9_1 g4_g9_1 k4_g10_0 g4_g10_0 k4_g10_1 g4_g10_1 B4 z4; intro f hf; have u3 : f 3 = (.int .i64 d) := (by rw [← hf]; rfl); clear hf; rintro w' ⟨h0, h1, h2, h3, h4, h5, h6, h7, h8, h9, h10, h11, h12, h13, h14, h15, h16, h17, h18, h19⟩; go_simp; try exact IntWalk.i64_in _ (by omega)
    refine obe_call (by rfl) ?_ ?_ ?_
    · clear k4_b4_0 g4_b4_0 k4_b4_1 g4_b4_1 k4_b5_0 g4_b5_0 k4_b5_1 g4_b5_1 k4_b8_0 g4_b8_0 k4_b8_1 g4_b8_1 k4_g9_0 g4_g9_0 k4_g9_1 g4_g9_1 k4_g10_0 g4_g10_0 k4_g10_1 g4_g10_1 B4 z4; intro f hf; have u41 : f 41 = (.int .i64 (k * (hold v - hold y))) := (by rw [← hf]; rfl); have u42 : f 42 = (.int .i64 d) := (by rw [← hf]; rfl); clear hf; intro w' _; simp only [execOp, resolve, invoke, rhoF_tmp, rhoF_func, rhoF_const, u41, u42, List.map_toArray, List.map_cons, List.map_nil]; go_simp
    · clear k4_b4_0 g4_b4_0 k4_b4_1 g4_b4_1 k4_b5_0 g4_b5_0 k4_b5_1 g4_b5_1 k4_b8_0 g4_b8_0 k4_b8_1 g4_b8_1 k4_g9_0 g4_g9_0 k4_g9_1 g4_g9_1 k4_g10_0 g4_g10_0 k4_g10_1 g4_g10_1 B4 z4; rintro w' ⟨h0, h1, h2, h3, h4, h5, h6, h7, h8, h9, h10, h11, h12, h13, h14, h15, h16, h17, h18, h19⟩; exact dy _
    refine obe_val (by rfl) ?_ ?_
    · clear k4_b4_0 g4_b4_0 k4_b4_1 g4_b4_1 k4_b5_0 g4_b5_0 k4_b5_1 g4_b5_1 k4_b8_0 g4_b8_0 k4_b8_1 g4_b8_1 k4_g9_0 g4_g9_0 k4_g9_1 g4_g9_1 k4_g10_0 g4_g10_0 k4_g10_1 g4_g10_1 B4 z4; intro f hf; have u37 : f 37 = (.int .i64 (hold y)) := (by rw [← hf]; rfl); have u43 : f 43 = (.int .i64 (mdrV (k * (hold v - hold y)) 1 d)) := (by rw [← hf]; rfl); clear hf; rintro w' ⟨h0, h1, h2, h3, h4, h5, h6, h7, h8, h9, h10, h11, h12, h13, h14, h15, h16, h17, h18, h19⟩; go_simp; try exact IntWalk.i64_in _ (by omega)
    refine obe_val (by rfl) ?_ ?_
    · clear k4_b4_0 g4_b4_0 k4_b4_1 g4_b4_1 k4_b5_0 g4_b5_0 k4_b5_1 g4_b5_1 k4_b8_0 g4_b8_0 k4_b8_1 g4_b8_1 k4_g9_0 g4_g9_0 k4_g9_1 g4_g9_1 k4_g10_0 g4_g10_0 k4_g10_1 g4_g10_1 B4 z4; intro f hf; have u35 : f 35 = (.int .i64 (hold x + mdrV (k * (hold u - hold x)) 1 d)) := (by rw [← hf]; rfl); have u44 : f 44 = (.int .i64 (hold y + mdrV (k * (hold v - hold y)) 1 d)) := (by rw [← hf]; rfl); clear hf; rintro w' ⟨h0, h1, h2, h3, h4, h5, h6, h7, h8, h9, h10, h11, h12, h13, h14, h15, h16, h17, h18, h19⟩; go_simp; try exact IntWalk.i64_in _ (by omega)
    refine obe_nil ?_
    rintro w5 ⟨h0, h1, h2, h3, h4, h5, h6, h7, h8, h9, h10, h11, h12, h13, h14, h15, h16, h17, h18, h19⟩ hb5 hF
    (try simp only [List.nil_append, List.append_nil, List.cons_append] at hF)
    simp only [puts, putD, Act.put, List.setIfInBounds_toArray, List.set_cons_zero, List.set_cons_succ]
    clear hF
    have k5_b4_0 := bcs hb5 k4_b4_0
    have g5_b4_0 := bfs hb5 k4_b4_0 g4_b4_0
    have k5_b4_1 := bcs hb5 k4_b4_1
    have g5_b4_1 := bfs hb5 k4_b4_1 g4_b4_1
    have k5_b5_0 := bcs hb5 k4_b5_0
    have g5_b5_0 := bfs hb5 k4_b5_0 g4_b5_0
    have k5_b5_1 := bcs hb5 k4_b5_1
    have g5_b5_1 := bfs hb5 k4_b5_1 g4_b5_1
    have k5_b8_0 := bcs hb5 k4_b8_0
    have g5_b8_0 := bfs hb5 k4_b8_0 g4_b8_0
    have k5_b8_1 := bcs hb5 k4_b8_1
    have g5_b8_1 := bfs hb5 k4_b8_1 g4_b8_1
    have k5_g9_0 := bcs hb5 k4_g9_0
    have g5_g9_0 := bfs hb5 k4_g9_0 g4_g9_0
    have k5_g9_1 := bcs hb5 k4_g9_1
    have g5_g9_1 := bfs hb5 k4_g9_1 g4_g9_1
    have k5_g10_0 := bcs hb5 k4_g10_0
    have g5_g10_0 := bfs hb5 k4_g10_0 g4_g10_0
    have k5_g10_1 := bcs hb5 k4_g10_1
    have g5_g10_1 := bfs hb5 k4_g10_1 g4_g10_1
    clear h0 h1 h2 h3 h4 h5 h6 h7 h8 h9 h10 h11 h12 h13 h14 h15 h16 h17 h18 h19
    have B5 := bel_step B4 hb5
    have z5 := Nat.le_trans z4 hb5.size
    clear hb5
    (try clear B4)
    (try clear z4)
    (try clear k4_b4_0)
    (try clear g4_b4_0)
    (try clear k4_b4_1)
    (try clear g4_b4_1)
    (try clear k4_b5_0)
    (try clear g4_b5_0)
    (try clear k4_b5_1)
    (try clear g4_b5_1)
    (try clear k4_b8_0)
    (try clear g4_b8_0)
    (try clear k4_b8_1)
    (try clear g4_b8_1)
    (try clear k4_g9_0)
    (try clear g4_g9_0)
    (try clear k4_g9_1)
    (try clear g4_g9_1)
    (try clear k4_g10_0)
    (try clear g4_g10_0)
    (try clear k4_g10_1)
    (try clear g4_g10_1)
    (try clear q4_b4)
    (try clear x4_b4)
    (try clear y4_b4)
    (try clear q4_b5)
    (try clear x4_b5)
    (try clear y4_b5)
    (try clear q4_b8)
    (try clear x4_b8)
    (try clear y4_b8)
    (try clear q4_g9)
    (try clear x4_g9)
    (try clear y4_g9)
    (try clear q4_g10)
    (try clear x4_g10)
    (try clear y4_g10)
    have q5_b4 : w.heap.size < w5.heap.size := qlt k5_b4_0
    have x5_b4 : ¬ w.heap.size = w5.heap.size := qne k5_b4_0
    have y5_b4 : ¬ w5.heap.size = w.heap.size := fun h => qne k5_b4_0 h.symm
    have q5_b5 : w.heap.size + 1 < w5.heap.size := qlt k5_b5_0
    have x5_b5 : ¬ w.heap.size + 1 = w5.heap.size := qne k5_b5_0
    have y5_b5 : ¬ w5.heap.size = w.heap.size + 1 := fun h => qne k5_b5_0 h.symm
    have q5_b8 : w.heap.size + 1 + 1 < w5.heap.size := qlt k5_b8_0
    have x5_b8 : ¬ w.heap.size + 1 + 1 = w5.heap.size := qne k5_b8_0
    have y5_b8 : ¬ w5.heap.size = w.heap.size + 1 + 1 := fun h => qne k5_b8_0 h.symm
    have q5_g9 : w1.heap.size < w5.heap.size := qlt k5_g9_0
    have x5_g9 : ¬ w1.heap.size = w5.heap.size := qne k5_g9_0
    have y5_g9 : ¬ w5.heap.size = w1.heap.size := fun h => qne k5_g9_0 h.symm
    have q5_g10 : w2.heap.size < w5.heap.size := qlt k5_g10_0
    have x5_g10 : ¬ w2.heap.size = w5.heap.size := qne k5_g10_0
    have y5_g10 : ¬ w5.heap.size = w2.heap.size := fun h => qne k5_g10_0 h.symm
    go_wp2
    refine bodyPost_ret (v := .agg #[.int .i64 (hold x + mdrV (k * (hold u - hold x)) 1 d), .int .i64 (hold y + mdrV (k * (hold v - hold y)) 1 d)]) (by simp [results, Try.results13, go_sem, *]) rfl ⟨rfl, ?_⟩
    repeat (first | with_reducible exact Below.refl _ _ | with_reducible exact B5 | with_reducible apply below_drewN | with_reducible apply Below.drew | (with_reducible refine Below.alloc ?_ (by first | (simp; done) | (simp; omega) | omega) _) | (with_reducible refine Below.setCell ?_ (by first | (simp; done) | (simp; omega) | omega) _))
end Go.Proofs.Ythofacdiajhjmaa
