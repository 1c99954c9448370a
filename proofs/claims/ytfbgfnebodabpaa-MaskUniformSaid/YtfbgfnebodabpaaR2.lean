
import Derived.Test.YtfbgfnebodabpaaR1
import Derived.WalkKit
import Derived.WalkSpells
import Derived.WalkLawsBesides
import Derived.Lib.Hide
import Derived.Below
import Derived.Deep.QuietTactic
import Derived.BigQuiet
import Derived.Deep.RegionHeld3
import Derived.Deep.DrawnRows
import Derived.Deep.DeepFit
import Derived.IntWalk
namespace Go.Proofs.Ytfbgfnebodabpaa
open Go.RowKit
set_option linter.unusedVariables false
set_option linter.unusedSimpArgs false
attribute [local go_sem ↓] Go.wp_at_zero Go.wp_at_succ
attribute [local go_sem] rhoF_tmp rhoF_const rhoF_global rhoF_func
theorem mul_bd (a b A B : Int) (h0 : -A ≤ a) (h1 : a ≤ A) (h2 : -B ≤ b) (h3 : b ≤ B) : -(A * B) ≤ a * b ∧ a * b ≤ A * B := by
  have hA : 0 ≤ A := by omega
  have hB : 0 ≤ B := by omega
  have e : (a * b).natAbs ≤ (A * B).natAbs := by
    rw [Int.natAbs_mul, Int.natAbs_mul]
    exact Nat.mul_le_mul (by omega) (by omega)
  have : 0 ≤ A * B := Int.mul_nonneg hA hB
  omega

theorem inr_any (x : Int) (w : World) :
    Calls Try.prog 80 #[.int .i64 x] w fun e w' => e = .returned (.bool (inR x)) ∧ w = w' := by
  by_cases h : -4096 ≤ x
  · by_cases k : x ≤ 4096
    · rw [(inR_iff x).2 ⟨h, k⟩]
      go_enter Try.func80, Try.ntmps80
      go_wp2
      go_ret
      exact ⟨rfl, rfl⟩
    · rw [show inR x = false by simp [inR]; omega]
      go_enter Try.func80, Try.ntmps80
      go_wp2
      go_ret
      exact ⟨rfl, rfl⟩
  · rw [show inR x = false by simp [inR]; omega]
    go_enter Try.func80, Try.ntmps80
    go_wp2
    go_ret
    exact ⟨rfl, rfl⟩

set_option maxHeartbeats 1000000 in
theorem rvalid_any (a b c d : Int) (w : World) :
    Calls Try.prog 58 #[.agg #[.int .i64 a, .int .i64 b, .int .i64 c, .int .i64 d]] w fun e w' => e = .returned (.bool (vR a b c d)) ∧ Below w.heap.size w w' := by
  have qa := fun w => inr_any a w
  have qb := fun w => inr_any b w
  have qc := fun w => inr_any c w
  have qd := fun w => inr_any d w
  by_cases ha : inR a = true
  case neg =>
    have ha' : inR a = false := by simpa using ha
    rw [ha'] at qa
    rw [show vR a b c d = false by simp [vR, ha']]
    clear ha ha'
    go_enter Try.func58, Try.ntmps58
    go_wp2_with (first | (go_at_call 80; (with_reducible refine (qa _).mono ?_); rintro e w9 ⟨rfl, rfl⟩))
    go_ret
    refine ⟨rfl, ?_⟩
    repeat (first | with_reducible exact Below.refl _ _ | fail | with_reducible apply below_drewN | with_reducible apply Below.drew | (with_reducible refine Below.alloc ?_ (by first | (simp; done) | (simp; omega) | omega) _) | (with_reducible refine Below.setCell ?_ (by first | (simp; done) | (simp; omega) | omega) _))
  rw [ha] at qa
  by_cases hb : inR b = true
  case neg =>
    have hb' : inR b = false := by simpa using hb
    rw [hb'] at qb
    rw [show vR a b c d = false by simp [vR, hb']]
    clear hb hb'
    go_enter Try.func58, Try.ntmps58
    go_wp2_with (first | (go_at_call 80; (with_reducible refine (qa _).mono ?_); rintro e w9 ⟨rfl, rfl⟩) | (go_at_call 80; (with_reducible refine (qb _).mono ?_); rintro e w9 ⟨rfl, rfl⟩))
    go_ret
    refine ⟨rfl, ?_⟩
    repeat (first | with_reducible exact Below.refl _ _ | fail | with_reducible apply below_drewN | with_reducible apply Below.drew | (with_reducible refine Below.alloc ?_ (by first | (simp; done) | (simp; omega) | omega) _) | (with_reducible refine Below.setCell ?_ (by first | (simp; done) | (simp; omega) | omega) _))
  rw [hb] at qb
  by_cases hc : inR c = true
  case neg =>
    have hc' : inR c = false := by simpa using hc
    rw [hc'] at qc
    rw [show vR a b c d = false by simp [vR, hc']]
    clear hc hc'
    go_enter Try.func58, Try.ntmps58
    go_wp2_with (first | (go_at_call 80; (with_reducible refine (qa _).mono ?_); rintro e w9 ⟨rfl, rfl⟩) | (go_at_call 80; (with_reducible refine (qb _).mono ?_); rintro e w9 ⟨rfl, rfl⟩) | (go_at_call 80; (with_reducible refine (qc _).mono ?_); rintro e w9 ⟨rfl, rfl⟩))
    go_ret
    refine ⟨rfl, ?_⟩
    repeat (first | with_reducible exact Below.refl _ _ | fail | with_reducible apply below_drewN | with_reducible apply Below.drew | (with_reducible refine Below.alloc ?_ (by first | (simp; done) | (simp; omega) | omega) _) | (with_reducible refine Below.setCell ?_ (by first | (simp; done) | (simp; omega) | omega) _))
  rw [hc] at qc
  by_cases hd : inR d = true
  case neg =>
    have hd' : inR d = false := by simpa using hd
    rw [hd'] at qd
    rw [show vR a b c d = false by simp [vR, hd']]
    clear hd hd'
    go_enter Try.func58, Try.ntmps58
    go_wp2_with (first | (go_at_call 80; (with_reducible refine (qa _).mono ?_); rintro e w9 ⟨rfl, rfl⟩) | (go_at_call 80; (with_reducible refine (qb _).mono ?_); rintro e w9 ⟨rfl, rfl⟩) | (go_at_call 80; (with_reducible refine (qc _).mono ?_); rintro e w9 ⟨rfl, rfl⟩) | (go_at_call 80; (with_reducible refine (qd _).mono ?_); rintro e w9 ⟨rfl, rfl⟩))
    go_ret
    refine ⟨rfl, ?_⟩
    repeat (first | with_reducible exact Below.refl _ _ | fail | with_reducible apply below_drewN | with_reducible apply Below.drew | (with_reducible refine Below.alloc ?_ (by first | (simp; done) | (simp; omega) | omega) _) | (with_reducible refine Below.setCell ?_ (by first | (simp; done) | (simp; omega) | omega) _))
  rw [hd] at qd
  rw [show vR a b c d = true by simp [vR, ha, hb, hc, hd]]
  go_enter Try.func58, Try.ntmps58
  go_wp2_with (first | (go_at_call 80; (with_reducible refine (qa _).mono ?_); rintro e w9 ⟨rfl, rfl⟩) | (go_at_call 80; (with_reducible refine (qb _).mono ?_); rintro e w9 ⟨rfl, rfl⟩) | (go_at_call 80; (with_reducible refine (qc _).mono ?_); rintro e w9 ⟨rfl, rfl⟩) | (go_at_call 80; (with_reducible refine (qd _).mono ?_); rintro e w9 ⟨rfl, rfl⟩))
  go_ret
  refine ⟨rfl, ?_⟩
  repeat (first | with_reducible exact Below.refl _ _ | fail | with_reducible apply below_drewN | with_reducible apply Below.drew | (with_reducible refine Below.alloc ?_ (by first | (simp; done) | (simp; omega) | omega) _) | (with_reducible refine Below.setCell ?_ (by first | (simp; done) | (simp; omega) | omega) _))

set_option maxHeartbeats 1000000 in
theorem empty_any (a b c d : Int) (w : World) :
    Calls Try.prog 78 #[.agg #[.int .i64 a, .int .i64 b, .int .i64 c, .int .i64 d]] w fun e w' => e = .returned (.bool (eR a b c d)) ∧ Below w.heap.size w w' := by
  have c1 := fun w => valid_any a b c d w
  cases hv : vR a b c d with
  | false =>
    rw [hv] at c1
    rw [show eR a b c d = true by simp [eR, hv]]
    go_enter Try.func78, Try.ntmps78
    go_wp2_with (first | (go_at_call 55; (with_reducible refine (c1 _).mono ?_); rintro e w1 ⟨rfl, hb1⟩; have k1_b1_0 : w1.cell? ⟨w.heap.size, 0, none⟩ = some (.int .i64 a) := bcs hb1 (by go_simp); have g1_b1_0 : w1.frozen? ⟨w.heap.size, 0, none⟩ = false := bfs hb1 (v := .int .i64 a) (by go_simp) (by go_simp); have k1_b1_1 : w1.cell? ⟨w.heap.size, 1, none⟩ = some (.int .i64 b) := bcs hb1 (by go_simp); have g1_b1_1 : w1.frozen? ⟨w.heap.size, 1, none⟩ = false := bfs hb1 (v := .int .i64 b) (by go_simp) (by go_simp); have k1_b1_2 : w1.cell? ⟨w.heap.size, 2, none⟩ = some (.int .i64 c) := bcs hb1 (by go_simp); have g1_b1_2 : w1.frozen? ⟨w.heap.size, 2, none⟩ = false := bfs hb1 (v := .int .i64 c) (by go_simp) (by go_simp); have k1_b1_3 : w1.cell? ⟨w.heap.size, 3, none⟩ = some (.int .i64 d) := bcs hb1 (by go_simp); have g1_b1_3 : w1.frozen? ⟨w.heap.size, 3, none⟩ = false := bfs hb1 (v := .int .i64 d) (by go_simp) (by go_simp); have q1_b1 : w.heap.size < w1.heap.size := qlt k1_b1_0; have x1_b1 : ¬ w.heap.size = w1.heap.size := qne k1_b1_0; have y1_b1 : ¬ w1.heap.size = w.heap.size := fun h => qne k1_b1_0 h.symm; have B1 : Below w.heap.size w w1 := bel_step (by repeat (first | with_reducible exact Below.refl _ _ | fail | with_reducible apply below_drewN | with_reducible apply Below.drew | (with_reducible refine Below.alloc ?_ (by first | (simp; done) | (simp; omega) | omega) _) | (with_reducible refine Below.setCell ?_ (by first | (simp; done) | (simp; omega) | omega) _))) hb1; have z1 : w.heap.size + 1 ≤ w1.heap.size := Nat.le_trans (by first | with_reducible assumption | (simp; done) | (simp; omega)) hb1.size; clear hb1))
    go_ret
    refine ⟨rfl, ?_⟩
    repeat (first | with_reducible exact Below.refl _ _ | with_reducible exact B1 | with_reducible apply below_drewN | with_reducible apply Below.drew | (with_reducible refine Below.alloc ?_ (by first | (simp; done) | (simp; omega) | omega) _) | (with_reducible refine Below.setCell ?_ (by first | (simp; done) | (simp; omega) | omega) _))
  | true =>
    rw [hv] at c1
    by_cases h1 : c ≤ a
    · rw [show eR a b c d = true by simp [eR, h1]]
      go_enter Try.func78, Try.ntmps78
      go_wp2_with (first | (go_at_call 55; (with_reducible refine (c1 _).mono ?_); rintro e w1 ⟨rfl, hb1⟩; have k1_b1_0 : w1.cell? ⟨w.heap.size, 0, none⟩ = some (.int .i64 a) := bcs hb1 (by go_simp); have g1_b1_0 : w1.frozen? ⟨w.heap.size, 0, none⟩ = false := bfs hb1 (v := .int .i64 a) (by go_simp) (by go_simp); have k1_b1_1 : w1.cell? ⟨w.heap.size, 1, none⟩ = some (.int .i64 b) := bcs hb1 (by go_simp); have g1_b1_1 : w1.frozen? ⟨w.heap.size, 1, none⟩ = false := bfs hb1 (v := .int .i64 b) (by go_simp) (by go_simp); have k1_b1_2 : w1.cell? ⟨w.heap.size, 2, none⟩ = some (.int .i64 c) := bcs hb1 (by go_simp); have g1_b1_2 : w1.frozen? ⟨w.heap.size, 2, none⟩ = false := bfs hb1 (v := .int .i64 c) (by go_simp) (by go_simp); have k1_b1_3 : w1.cell? ⟨w.heap.size, 3, none⟩ = some (.int .i64 d) := bcs hb1 (by go_simp); have g1_b1_3 : w1.frozen? ⟨w.heap.size, 3, none⟩ = false := bfs hb1 (v := .int .i64 d) (by go_simp) (by go_simp); have q1_b1 : w.heap.size < w1.heap.size := qlt k1_b1_0; have x1_b1 : ¬ w.heap.size = w1.heap.size := qne k1_b1_0; have y1_b1 : ¬ w1.heap.size = w.heap.size := fun h => qne k1_b1_0 h.symm; have B1 : Below w.heap.size w w1 := bel_step (by repeat (first | with_reducible exact Below.refl _ _ | fail | with_reducible apply below_drewN | with_reducible apply Below.drew | (with_reducible refine Below.alloc ?_ (by first | (simp; done) | (simp; omega) | omega) _) | (with_reducible refine Below.setCell ?_ (by first | (simp; done) | (simp; omega) | omega) _))) hb1; have z1 : w.heap.size + 1 ≤ w1.heap.size := Nat.le_trans (by first | with_reducible assumption | (simp; done) | (simp; omega)) hb1.size; clear hb1))
      go_ret
      refine ⟨rfl, ?_⟩
      repeat (first | with_reducible exact Below.refl _ _ | with_reducible exact B1 | with_reducible apply below_drewN | with_reducible apply Below.drew | (with_reducible refine Below.alloc ?_ (by first | (simp; done) | (simp; omega) | omega) _) | (with_reducible refine Below.setCell ?_ (by first | (simp; done) | (simp; omega) | omega) _))
    · by_cases h2 : d ≤ b
      · rw [show eR a b c d = true by simp [eR, h2]]
        go_enter Try.func78, Try.ntmps78
        go_wp2_with (first | (go_at_call 55; (with_reducible refine (c1 _).mono ?_); rintro e w1 ⟨rfl, hb1⟩; have k1_b1_0 : w1.cell? ⟨w.heap.size, 0, none⟩ = some (.int .i64 a) := bcs hb1 (by go_simp); have g1_b1_0 : w1.frozen? ⟨w.heap.size, 0, none⟩ = false := bfs hb1 (v := .int .i64 a) (by go_simp) (by go_simp); have k1_b1_1 : w1.cell? ⟨w.heap.size, 1, none⟩ = some (.int .i64 b) := bcs hb1 (by go_simp); have g1_b1_1 : w1.frozen? ⟨w.heap.size, 1, none⟩ = false := bfs hb1 (v := .int .i64 b) (by go_simp) (by go_simp); have k1_b1_2 : w1.cell? ⟨w.heap.size, 2, none⟩ = some (.int .i64 c) := bcs hb1 (by go_simp); have g1_b1_2 : w1.frozen? ⟨w.heap.size, 2, none⟩ = false := bfs hb1 (v := .int .i64 c) (by go_simp) (by go_simp); have k1_b1_3 : w1.cell? ⟨w.heap.size, 3, none⟩ = some (.int .i64 d) := bcs hb1 (by go_simp); have g1_b1_3 : w1.frozen? ⟨w.heap.size, 3, none⟩ = false := bfs hb1 (v := .int .i64 d) (by go_simp) (by go_simp); have q1_b1 : w.heap.size < w1.heap.size := qlt k1_b1_0; have x1_b1 : ¬ w.heap.size = w1.heap.size := qne k1_b1_0; have y1_b1 : ¬ w1.heap.size = w.heap.size := fun h => qne k1_b1_0 h.symm; have B1 : Below w.heap.size w w1 := bel_step (by repeat (first | with_reducible exact Below.refl _ _ | fail | with_reducible apply below_drewN | with_reducible apply Below.drew | (with_reducible refine Below.alloc ?_ (by first | (simp; done) | (simp; omega) | omega) _) | (with_reducible refine Below.setCell ?_ (by first | (simp; done) | (simp; omega) | omega) _))) hb1; have z1 : w.heap.size + 1 ≤ w1.heap.size := Nat.le_trans (by first | with_reducible assumption | (simp; done) | (simp; omega)) hb1.size; clear hb1))
        go_ret
        refine ⟨rfl, ?_⟩
        repeat (first | with_reducible exact Below.refl _ _ | with_reducible exact B1 | with_reducible apply below_drewN | with_reducible apply Below.drew | (with_reducible refine Below.alloc ?_ (by first | (simp; done) | (simp; omega) | omega) _) | (with_reducible refine Below.setCell ?_ (by first | (simp; done) | (simp; omega) | omega) _))
      · rw [show eR a b c d = false by simp [eR, hv]; omega]
        have d1 : decide (c ≤ a) = false := by simp; omega
        have d2 : decide (d ≤ b) = false := by simp; omega
        go_enter Try.func78, Try.ntmps78
        go_wp2_with (first | (go_at_call 55; (with_reducible refine (c1 _).mono ?_); rintro e w1 ⟨rfl, hb1⟩; have k1_b1_0 : w1.cell? ⟨w.heap.size, 0, none⟩ = some (.int .i64 a) := bcs hb1 (by go_simp); have g1_b1_0 : w1.frozen? ⟨w.heap.size, 0, none⟩ = false := bfs hb1 (v := .int .i64 a) (by go_simp) (by go_simp); have k1_b1_1 : w1.cell? ⟨w.heap.size, 1, none⟩ = some (.int .i64 b) := bcs hb1 (by go_simp); have g1_b1_1 : w1.frozen? ⟨w.heap.size, 1, none⟩ = false := bfs hb1 (v := .int .i64 b) (by go_simp) (by go_simp); have k1_b1_2 : w1.cell? ⟨w.heap.size, 2, none⟩ = some (.int .i64 c) := bcs hb1 (by go_simp); have g1_b1_2 : w1.frozen? ⟨w.heap.size, 2, none⟩ = false := bfs hb1 (v := .int .i64 c) (by go_simp) (by go_simp); have k1_b1_3 : w1.cell? ⟨w.heap.size, 3, none⟩ = some (.int .i64 d) := bcs hb1 (by go_simp); have g1_b1_3 : w1.frozen? ⟨w.heap.size, 3, none⟩ = false := bfs hb1 (v := .int .i64 d) (by go_simp) (by go_simp); have q1_b1 : w.heap.size < w1.heap.size := qlt k1_b1_0; have x1_b1 : ¬ w.heap.size = w1.heap.size := qne k1_b1_0; have y1_b1 : ¬ w1.heap.size = w.heap.size := fun h => qne k1_b1_0 h.symm; have B1 : Below w.heap.size w w1 := bel_step (by repeat (first | with_reducible exact Below.refl _ _ | fail | with_reducible apply below_drewN | with_reducible apply Below.drew | (with_reducible refine Below.alloc ?_ (by first | (simp; done) | (simp; omega) | omega) _) | (with_reducible refine Below.setCell ?_ (by first | (simp; done) | (simp; omega) | omega) _))) hb1; have z1 : w.heap.size + 1 ≤ w1.heap.size := Nat.le_trans (by first | with_reducible assumption | (simp; done) | (simp; omega)) hb1.size; clear hb1))
        go_ret
        refine ⟨rfl, ?_⟩
        repeat (first | with_reducible exact Below.refl _ _ | with_reducible exact B1 | with_reducible apply below_drewN | with_reducible apply Below.drew | (with_reducible refine Below.alloc ?_ (by first | (simp; done) | (simp; omega) | omega) _) | (with_reducible refine Below.setCell ?_ (by first | (simp; done) | (simp; omega) | omega) _))

set_option maxHeartbeats 1000000 in
theorem rempty_any (a b c d : Int) (w : World) :
    Calls Try.prog 65 #[.agg #[.int .i64 a, .int .i64 b, .int .i64 c, .int .i64 d]] w fun e w' => e = .returned (.bool (eR a b c d)) ∧ Below w.heap.size w w' := by
  have c1 := fun w => rvalid_any a b c d w
  cases hv : vR a b c d with
  | false =>
    rw [hv] at c1
    rw [show eR a b c d = true by simp [eR, hv]]
    go_enter Try.func65, Try.ntmps65
    go_wp2_with (first | (go_at_call 58; (with_reducible refine (c1 _).mono ?_); rintro e w1 ⟨rfl, hb1⟩; have k1_b1_0 : w1.cell? ⟨w.heap.size, 0, none⟩ = some (.int .i64 a) := bcs hb1 (by go_simp); have g1_b1_0 : w1.frozen? ⟨w.heap.size, 0, none⟩ = false := bfs hb1 (v := .int .i64 a) (by go_simp) (by go_simp); have k1_b1_1 : w1.cell? ⟨w.heap.size, 1, none⟩ = some (.int .i64 b) := bcs hb1 (by go_simp); have g1_b1_1 : w1.frozen? ⟨w.heap.size, 1, none⟩ = false := bfs hb1 (v := .int .i64 b) (by go_simp) (by go_simp); have k1_b1_2 : w1.cell? ⟨w.heap.size, 2, none⟩ = some (.int .i64 c) := bcs hb1 (by go_simp); have g1_b1_2 : w1.frozen? ⟨w.heap.size, 2, none⟩ = false := bfs hb1 (v := .int .i64 c) (by go_simp) (by go_simp); have k1_b1_3 : w1.cell? ⟨w.heap.size, 3, none⟩ = some (.int .i64 d) := bcs hb1 (by go_simp); have g1_b1_3 : w1.frozen? ⟨w.heap.size, 3, none⟩ = false := bfs hb1 (v := .int .i64 d) (by go_simp) (by go_simp); have q1_b1 : w.heap.size < w1.heap.size := qlt k1_b1_0; have x1_b1 : ¬ w.heap.size = w1.heap.size := qne k1_b1_0; have y1_b1 : ¬ w1.heap.size = w.heap.size := fun h => qne k1_b1_0 h.symm; have B1 : Below w.heap.size w w1 := bel_step (by repeat (first | with_reducible exact Below.refl _ _ | fail | with_reducible apply below_drewN | with_reducible apply Below.drew | (with_reducible refine Below.alloc ?_ (by first | (simp; done) | (simp; omega) | omega) _) | (with_reducible refine Below.setCell ?_ (by first | (simp; done) | (simp; omega) | omega) _))) hb1; have z1 : w.heap.size + 1 ≤ w1.heap.size := Nat.le_trans (by first | with_reducible assumption | (simp; done) | (simp; omega)) hb1.size; clear hb1))
    go_ret
    refine ⟨rfl, ?_⟩
    repeat (first | with_reducible exact Below.refl _ _ | with_reducible exact B1 | with_reducible apply below_drewN | with_reducible apply Below.drew | (with_reducible refine Below.alloc ?_ (by first | (simp; done) | (simp; omega) | omega) _) | (with_reducible refine Below.setCell ?_ (by first | (simp; done) | (simp; omega) | omega) _))
  | true =>
    rw [hv] at c1
    by_cases h1 : c ≤ a
    · rw [show eR a b c d = true by simp [eR, h1]]
      go_enter Try.func65, Try.ntmps65
      go_wp2_with (first | (go_at_call 58; (with_reducible refine (c1 _).mono ?_); rintro e w1 ⟨rfl, hb1⟩; have k1_b1_0 : w1.cell? ⟨w.heap.size, 0, none⟩ = some (.int .i64 a) := bcs hb1 (by go_simp); have g1_b1_0 : w1.frozen? ⟨w.heap.size, 0, none⟩ = false := bfs hb1 (v := .int .i64 a) (by go_simp) (by go_simp); have k1_b1_1 : w1.cell? ⟨w.heap.size, 1, none⟩ = some (.int .i64 b) := bcs hb1 (by go_simp); have g1_b1_1 : w1.frozen? ⟨w.heap.size, 1, none⟩ = false := bfs hb1 (v := .int .i64 b) (by go_simp) (by go_simp); have k1_b1_2 : w1.cell? ⟨w.heap.size, 2, none⟩ = some (.int .i64 c) := bcs hb1 (by go_simp); have g1_b1_2 : w1.frozen? ⟨w.heap.size, 2, none⟩ = false := bfs hb1 (v := .int .i64 c) (by go_simp) (by go_simp); have k1_b1_3 : w1.cell? ⟨w.heap.size, 3, none⟩ = some (.int .i64 d) := bcs hb1 (by go_simp); have g1_b1_3 : w1.frozen? ⟨w.heap.size, 3, none⟩ = false := bfs hb1 (v := .int .i64 d) (by go_simp) (by go_simp); have q1_b1 : w.heap.size < w1.heap.size := qlt k1_b1_0; have x1_b1 : ¬ w.heap.size = w1.heap.size := qne k1_b1_0; have y1_b1 : ¬ w1.heap.size = w.heap.size := fun h => qne k1_b1_0 h.symm; have B1 : Below w.heap.size w w1 := bel_step (by repeat (first | with_reducible exact Below.refl _ _ | fail | with_reducible apply below_drewN | with_reducible apply Below.drew | (with_reducible refine Below.alloc ?_ (by first | (simp; done) | (simp; omega) | omega) _) | (with_reducible refine Below.setCell ?_ (by first | (simp; done) | (simp; omega) | omega) _))) hb1; have z1 : w.heap.size + 1 ≤ w1.heap.size := Nat.le_trans (by first | with_reducible assumption | (simp; done) | (simp; omega)) hb1.size; clear hb1))
      go_ret
      refine ⟨rfl, ?_⟩
      repeat (first | with_reducible exact Below.refl _ _ | with_reducible exact B1 | with_reducible apply below_drewN | with_reducible apply Below.drew | (with_reducible refine Below.alloc ?_ (by first | (simp; done) | (simp; omega) | omega) _) | (with_reducible refine Below.setCell ?_ (by first | (simp; done) | (simp; omega) | omega) _))
    · by_cases h2 : d ≤ b
      · rw [show eR a b c d = true by simp [eR, h2]]
        go_enter Try.func65, Try.ntmps65
        go_wp2_with (first | (go_at_call 58; (with_reducible refine (c1 _).mono ?_); rintro e w1 ⟨rfl, hb1⟩; have k1_b1_0 : w1.cell? ⟨w.heap.size, 0, none⟩ = some (.int .i64 a) := bcs hb1 (by go_simp); have g1_b1_0 : w1.frozen? ⟨w.heap.size, 0, none⟩ = false := bfs hb1 (v := .int .i64 a) (by go_simp) (by go_simp); have k1_b1_1 : w1.cell? ⟨w.heap.size, 1, none⟩ = some (.int .i64 b) := bcs hb1 (by go_simp); have g1_b1_1 : w1.frozen? ⟨w.heap.size, 1, none⟩ = false := bfs hb1 (v := .int .i64 b) (by go_simp) (by go_simp); have k1_b1_2 : w1.cell? ⟨w.heap.size, 2, none⟩ = some (.int .i64 c) := bcs hb1 (by go_simp); have g1_b1_2 : w1.frozen? ⟨w.heap.size, 2, none⟩ = false := bfs hb1 (v := .int .i64 c) (by go_simp) (by go_simp); have k1_b1_3 : w1.cell? ⟨w.heap.size, 3, none⟩ = some (.int .i64 d) := bcs hb1 (by go_simp); have g1_b1_3 : w1.frozen? ⟨w.heap.size, 3, none⟩ = false := bfs hb1 (v := .int .i64 d) (by go_simp) (by go_simp); have q1_b1 : w.heap.size < w1.heap.size := qlt k1_b1_0; have x1_b1 : ¬ w.heap.size = w1.heap.size := qne k1_b1_0; have y1_b1 : ¬ w1.heap.size = w.heap.size := fun h => qne k1_b1_0 h.symm; have B1 : Below w.heap.size w w1 := bel_step (by repeat (first | with_reducible exact Below.refl _ _ | fail | with_reducible apply below_drewN | with_reducible apply Below.drew | (with_reducible refine Below.alloc ?_ (by first | (simp; done) | (simp; omega) | omega) _) | (with_reducible refine Below.setCell ?_ (by first | (simp; done) | (simp; omega) | omega) _))) hb1; have z1 : w.heap.size + 1 ≤ w1.heap.size := Nat.le_trans (by first | with_reducible assumption | (simp; done) | (simp; omega)) hb1.size; clear hb1))
        go_ret
        refine ⟨rfl, ?_⟩
        repeat (first | with_reducible exact Below.refl _ _ | with_reducible exact B1 | with_reducible apply below_drewN | with_reducible apply Below.drew | (with_reducible refine Below.alloc ?_ (by first | (simp; done) | (simp; omega) | omega) _) | (with_reducible refine Below.setCell ?_ (by first | (simp; done) | (simp; omega) | omega) _))
      · rw [show eR a b c d = false by simp [eR, hv]; omega]
        have d1 : decide (c ≤ a) = false := by simp; omega
        have d2 : decide (d ≤ b) = false := by simp; omega
        go_enter Try.func65, Try.ntmps65
        go_wp2_with (first | (go_at_call 58; (with_reducible refine (c1 _).mono ?_); rintro e w1 ⟨rfl, hb1⟩; have k1_b1_0 : w1.cell? ⟨w.heap.size, 0, none⟩ = some (.int .i64 a) := bcs hb1 (by go_simp); have g1_b1_0 : w1.frozen? ⟨w.heap.size, 0, none⟩ = false := bfs hb1 (v := .int .i64 a) (by go_simp) (by go_simp); have k1_b1_1 : w1.cell? ⟨w.heap.size, 1, none⟩ = some (.int .i64 b) := bcs hb1 (by go_simp); have g1_b1_1 : w1.frozen? ⟨w.heap.size, 1, none⟩ = false := bfs hb1 (v := .int .i64 b) (by go_simp) (by go_simp); have k1_b1_2 : w1.cell? ⟨w.heap.size, 2, none⟩ = some (.int .i64 c) := bcs hb1 (by go_simp); have g1_b1_2 : w1.frozen? ⟨w.heap.size, 2, none⟩ = false := bfs hb1 (v := .int .i64 c) (by go_simp) (by go_simp); have k1_b1_3 : w1.cell? ⟨w.heap.size, 3, none⟩ = some (.int .i64 d) := bcs hb1 (by go_simp); have g1_b1_3 : w1.frozen? ⟨w.heap.size, 3, none⟩ = false := bfs hb1 (v := .int .i64 d) (by go_simp) (by go_simp); have q1_b1 : w.heap.size < w1.heap.size := qlt k1_b1_0; have x1_b1 : ¬ w.heap.size = w1.heap.size := qne k1_b1_0; have y1_b1 : ¬ w1.heap.size = w.heap.size := fun h => qne k1_b1_0 h.symm; have B1 : Below w.heap.size w w1 := bel_step (by repeat (first | with_reducible exact Below.refl _ _ | fail | with_reducible apply below_drewN | with_reducible apply Below.drew | (with_reducible refine Below.alloc ?_ (by first | (simp; done) | (simp; omega) | omega) _) | (with_reducible refine Below.setCell ?_ (by first | (simp; done) | (simp; omega) | omega) _))) hb1; have z1 : w.heap.size + 1 ≤ w1.heap.size := Nat.le_trans (by first | with_reducible assumption | (simp; done) | (simp; omega)) hb1.size; clear hb1))
        go_ret
        refine ⟨rfl, ?_⟩
        repeat (first | with_reducible exact Below.refl _ _ | with_reducible exact B1 | with_reducible apply below_drewN | with_reducible apply Below.drew | (with_reducible refine Below.alloc ?_ (by first | (simp; done) | (simp; omega) | omega) _) | (with_reducible refine Below.setCell ?_ (by first | (simp; done) | (simp; omega) | omega) _))

set_option maxHeartbeats 1000000 in
theorem canon_any (a b c d : Int) (w : World) :
    Calls Try.prog 48 #[.agg #[.int .i64 a, .int .i64 b, .int .i64 c, .int .i64 d]] w fun e w' => e = .returned (.agg #[.int .i64 (cn (eR a b c d) a), .int .i64 (cn (eR a b c d) b), .int .i64 (cn (eR a b c d) c), .int .i64 (cn (eR a b c d) d)]) ∧ Below w.heap.size w w' := by
  have c1 := fun w => empty_any a b c d w
  cases he : eR a b c d with
  | true =>
    rw [he] at c1
    simp only [cn_true]
    clear he
    go_enter Try.func48, Try.ntmps48
    go_wp2_with (first | (go_at_call 78; (with_reducible refine (c1 _).mono ?_); rintro e w1 ⟨rfl, hb1⟩; have k1_b1_0 : w1.cell? ⟨w.heap.size, 0, none⟩ = some (.int .i64 a) := bcs hb1 (by go_simp); have g1_b1_0 : w1.frozen? ⟨w.heap.size, 0, none⟩ = false := bfs hb1 (v := .int .i64 a) (by go_simp) (by go_simp); have k1_b1_1 : w1.cell? ⟨w.heap.size, 1, none⟩ = some (.int .i64 b) := bcs hb1 (by go_simp); have g1_b1_1 : w1.frozen? ⟨w.heap.size, 1, none⟩ = false := bfs hb1 (v := .int .i64 b) (by go_simp) (by go_simp); have k1_b1_2 : w1.cell? ⟨w.heap.size, 2, none⟩ = some (.int .i64 c) := bcs hb1 (by go_simp); have g1_b1_2 : w1.frozen? ⟨w.heap.size, 2, none⟩ = false := bfs hb1 (v := .int .i64 c) (by go_simp) (by go_simp); have k1_b1_3 : w1.cell? ⟨w.heap.size, 3, none⟩ = some (.int .i64 d) := bcs hb1 (by go_simp); have g1_b1_3 : w1.frozen? ⟨w.heap.size, 3, none⟩ = false := bfs hb1 (v := .int .i64 d) (by go_simp) (by go_simp); have k1_b2_0 : w1.cell? ⟨w.heap.size + 1, 0, none⟩ = some (.int .i64 0) := bcs hb1 (by go_simp); have g1_b2_0 : w1.frozen? ⟨w.heap.size + 1, 0, none⟩ = false := bfs hb1 (v := .int .i64 0) (by go_simp) (by go_simp); have k1_b2_1 : w1.cell? ⟨w.heap.size + 1, 1, none⟩ = some (.int .i64 0) := bcs hb1 (by go_simp); have g1_b2_1 : w1.frozen? ⟨w.heap.size + 1, 1, none⟩ = false := bfs hb1 (v := .int .i64 0) (by go_simp) (by go_simp); have k1_b2_2 : w1.cell? ⟨w.heap.size + 1, 2, none⟩ = some (.int .i64 0) := bcs hb1 (by go_simp); have g1_b2_2 : w1.frozen? ⟨w.heap.size + 1, 2, none⟩ = false := bfs hb1 (v := .int .i64 0) (by go_simp) (by go_simp); have k1_b2_3 : w1.cell? ⟨w.heap.size + 1, 3, none⟩ = some (.int .i64 0) := bcs hb1 (by go_simp); have g1_b2_3 : w1.frozen? ⟨w.heap.size + 1, 3, none⟩ = false := bfs hb1 (v := .int .i64 0) (by go_simp) (by go_simp); have q1_b1 : w.heap.size < w1.heap.size := qlt k1_b1_0; have x1_b1 : ¬ w.heap.size = w1.heap.size := qne k1_b1_0; have y1_b1 : ¬ w1.heap.size = w.heap.size := fun h => qne k1_b1_0 h.symm; have q1_b2 : w.heap.size + 1 < w1.heap.size := qlt k1_b2_0; have x1_b2 : ¬ w.heap.size + 1 = w1.heap.size := qne k1_b2_0; have y1_b2 : ¬ w1.heap.size = w.heap.size + 1 := fun h => qne k1_b2_0 h.symm; have B1 : Below w.heap.size w w1 := bel_step (by repeat (first | with_reducible exact Below.refl _ _ | fail | with_reducible apply below_drewN | with_reducible apply Below.drew | (with_reducible refine Below.alloc ?_ (by first | (simp; done) | (simp; omega) | omega) _) | (with_reducible refine Below.setCell ?_ (by first | (simp; done) | (simp; omega) | omega) _))) hb1; have z1 : w.heap.size + 1 + 1 ≤ w1.heap.size := Nat.le_trans (by first | with_reducible assumption | (simp; done) | (simp; omega)) hb1.size; clear hb1))
    refine bodyPost_ret (v := .agg #[.int .i64 0, .int .i64 0, .int .i64 0, .int .i64 0]) (by simp [results, Try.results48, go_sem, *]) rfl ⟨rfl, ?_⟩
    repeat (first | with_reducible exact Below.refl _ _ | with_reducible exact B1 | with_reducible apply below_drewN | with_reducible apply Below.drew | (with_reducible refine Below.alloc ?_ (by first | (simp; done) | (simp; omega) | omega) _) | (with_reducible refine Below.setCell ?_ (by first | (simp; done) | (simp; omega) | omega) _))
  | false =>
    rw [he] at c1
    simp only [cn_false]
    clear he
    go_enter Try.func48, Try.ntmps48
    go_wp2_with (first | (go_at_call 78; (with_reducible refine (c1 _).mono ?_); rintro e w1 ⟨rfl, hb1⟩; have k1_b1_0 : w1.cell? ⟨w.heap.size, 0, none⟩ = some (.int .i64 a) := bcs hb1 (by go_simp); have g1_b1_0 : w1.frozen? ⟨w.heap.size, 0, none⟩ = false := bfs hb1 (v := .int .i64 a) (by go_simp) (by go_simp); have k1_b1_1 : w1.cell? ⟨w.heap.size, 1, none⟩ = some (.int .i64 b) := bcs hb1 (by go_simp); have g1_b1_1 : w1.frozen? ⟨w.heap.size, 1, none⟩ = false := bfs hb1 (v := .int .i64 b) (by go_simp) (by go_simp); have k1_b1_2 : w1.cell? ⟨w.heap.size, 2, none⟩ = some (.int .i64 c) := bcs hb1 (by go_simp); have g1_b1_2 : w1.frozen? ⟨w.heap.size, 2, none⟩ = false := bfs hb1 (v := .int .i64 c) (by go_simp) (by go_simp); have k1_b1_3 : w1.cell? ⟨w.heap.size, 3, none⟩ = some (.int .i64 d) := bcs hb1 (by go_simp); have g1_b1_3 : w1.frozen? ⟨w.heap.size, 3, none⟩ = false := bfs hb1 (v := .int .i64 d) (by go_simp) (by go_simp); have k1_b2_0 : w1.cell? ⟨w.heap.size + 1, 0, none⟩ = some (.int .i64 0) := bcs hb1 (by go_simp); have g1_b2_0 : w1.frozen? ⟨w.heap.size + 1, 0, none⟩ = false := bfs hb1 (v := .int .i64 0) (by go_simp) (by go_simp); have k1_b2_1 : w1.cell? ⟨w.heap.size + 1, 1, none⟩ = some (.int .i64 0) := bcs hb1 (by go_simp); have g1_b2_1 : w1.frozen? ⟨w.heap.size + 1, 1, none⟩ = false := bfs hb1 (v := .int .i64 0) (by go_simp) (by go_simp); have k1_b2_2 : w1.cell? ⟨w.heap.size + 1, 2, none⟩ = some (.int .i64 0) := bcs hb1 (by go_simp); have g1_b2_2 : w1.frozen? ⟨w.heap.size + 1, 2, none⟩ = false := bfs hb1 (v := .int .i64 0) (by go_simp) (by go_simp); have k1_b2_3 : w1.cell? ⟨w.heap.size + 1, 3, none⟩ = some (.int .i64 0) := bcs hb1 (by go_simp); have g1_b2_3 : w1.frozen? ⟨w.heap.size + 1, 3, none⟩ = false := bfs hb1 (v := .int .i64 0) (by go_simp) (by go_simp); have q1_b1 : w.heap.size < w1.heap.size := qlt k1_b1_0; have x1_b1 : ¬ w.heap.size = w1.heap.size := qne k1_b1_0; have y1_b1 : ¬ w1.heap.size = w.heap.size := fun h => qne k1_b1_0 h.symm; have q1_b2 : w.heap.size + 1 < w1.heap.size := qlt k1_b2_0; have x1_b2 : ¬ w.heap.size + 1 = w1.heap.size := qne k1_b2_0; have y1_b2 : ¬ w1.heap.size = w.heap.size + 1 := fun h => qne k1_b2_0 h.symm; have B1 : Below w.heap.size w w1 := bel_step (by repeat (first | with_reducible exact Below.refl _ _ | fail | with_reducible apply below_drewN | with_reducible apply Below.drew | (with_reducible refine Below.alloc ?_ (by first | (simp; done) | (simp; omega) | omega) _) | (with_reducible refine Below.setCell ?_ (by first | (simp; done) | (simp; omega) | omega) _))) hb1; have z1 : w.heap.size + 1 + 1 ≤ w1.heap.size := Nat.le_trans (by first | with_reducible assumption | (simp; done) | (simp; omega)) hb1.size; clear hb1))
    refine bodyPost_ret (v := .agg #[.int .i64 a, .int .i64 b, .int .i64 c, .int .i64 d]) (by simp [results, Try.results48, go_sem, *]) rfl ⟨rfl, ?_⟩
    repeat (first | with_reducible exact Below.refl _ _ | with_reducible exact B1 | with_reducible apply below_drewN | with_reducible apply Below.drew | (with_reducible refine Below.alloc ?_ (by first | (simp; done) | (simp; omega) | omega) _) | (with_reducible refine Below.setCell ?_ (by first | (simp; done) | (simp; omega) | omega) _))

set_option maxHeartbeats 1000000 in
theorem rcanon_any (a b c d : Int) (w : World) :
    Calls Try.prog 49 #[.agg #[.int .i64 a, .int .i64 b, .int .i64 c, .int .i64 d]] w fun e w' => e = .returned (.agg #[.int .i64 (cn (eR a b c d) a), .int .i64 (cn (eR a b c d) b), .int .i64 (cn (eR a b c d) c), .int .i64 (cn (eR a b c d) d)]) ∧ Below w.heap.size w w' := by
  have c1 := fun w => rempty_any a b c d w
  cases he : eR a b c d with
  | true =>
    rw [he] at c1
    simp only [cn_true]
    clear he
    go_enter Try.func49, Try.ntmps49
    go_wp2_with (first | (go_at_call 65; (with_reducible refine (c1 _).mono ?_); rintro e w1 ⟨rfl, hb1⟩; have k1_b1_0 : w1.cell? ⟨w.heap.size, 0, none⟩ = some (.int .i64 a) := bcs hb1 (by go_simp); have g1_b1_0 : w1.frozen? ⟨w.heap.size, 0, none⟩ = false := bfs hb1 (v := .int .i64 a) (by go_simp) (by go_simp); have k1_b1_1 : w1.cell? ⟨w.heap.size, 1, none⟩ = some (.int .i64 b) := bcs hb1 (by go_simp); have g1_b1_1 : w1.frozen? ⟨w.heap.size, 1, none⟩ = false := bfs hb1 (v := .int .i64 b) (by go_simp) (by go_simp); have k1_b1_2 : w1.cell? ⟨w.heap.size, 2, none⟩ = some (.int .i64 c) := bcs hb1 (by go_simp); have g1_b1_2 : w1.frozen? ⟨w.heap.size, 2, none⟩ = false := bfs hb1 (v := .int .i64 c) (by go_simp) (by go_simp); have k1_b1_3 : w1.cell? ⟨w.heap.size, 3, none⟩ = some (.int .i64 d) := bcs hb1 (by go_simp); have g1_b1_3 : w1.frozen? ⟨w.heap.size, 3, none⟩ = false := bfs hb1 (v := .int .i64 d) (by go_simp) (by go_simp); have k1_b2_0 : w1.cell? ⟨w.heap.size + 1, 0, none⟩ = some (.int .i64 0) := bcs hb1 (by go_simp); have g1_b2_0 : w1.frozen? ⟨w.heap.size + 1, 0, none⟩ = false := bfs hb1 (v := .int .i64 0) (by go_simp) (by go_simp); have k1_b2_1 : w1.cell? ⟨w.heap.size + 1, 1, none⟩ = some (.int .i64 0) := bcs hb1 (by go_simp); have g1_b2_1 : w1.frozen? ⟨w.heap.size + 1, 1, none⟩ = false := bfs hb1 (v := .int .i64 0) (by go_simp) (by go_simp); have k1_b2_2 : w1.cell? ⟨w.heap.size + 1, 2, none⟩ = some (.int .i64 0) := bcs hb1 (by go_simp); have g1_b2_2 : w1.frozen? ⟨w.heap.size + 1, 2, none⟩ = false := bfs hb1 (v := .int .i64 0) (by go_simp) (by go_simp); have k1_b2_3 : w1.cell? ⟨w.heap.size + 1, 3, none⟩ = some (.int .i64 0) := bcs hb1 (by go_simp); have g1_b2_3 : w1.frozen? ⟨w.heap.size + 1, 3, none⟩ = false := bfs hb1 (v := .int .i64 0) (by go_simp) (by go_simp); have q1_b1 : w.heap.size < w1.heap.size := qlt k1_b1_0; have x1_b1 : ¬ w.heap.size = w1.heap.size := qne k1_b1_0; have y1_b1 : ¬ w1.heap.size = w.heap.size := fun h => qne k1_b1_0 h.symm; have q1_b2 : w.heap.size + 1 < w1.heap.size := qlt k1_b2_0; have x1_b2 : ¬ w.heap.size + 1 = w1.heap.size := qne k1_b2_0; have y1_b2 : ¬ w1.heap.size = w.heap.size + 1 := fun h => qne k1_b2_0 h.symm; have B1 : Below w.heap.size w w1 := bel_step (by repeat (first | with_reducible exact Below.refl _ _ | fail | with_reducible apply below_drewN | with_reducible apply Below.drew | (with_reducible refine Below.alloc ?_ (by first | (simp; done) | (simp; omega) | omega) _) | (with_reducible refine Below.setCell ?_ (by first | (simp; done) | (simp; omega) | omega) _))) hb1; have z1 : w.heap.size + 1 + 1 ≤ w1.heap.size := Nat.le_trans (by first | with_reducible assumption | (simp; done) | (simp; omega)) hb1.size; clear hb1))
    refine bodyPost_ret (v := .agg #[.int .i64 0, .int .i64 0, .int .i64 0, .int .i64 0]) (by simp [results, Try.results49, go_sem, *]) rfl ⟨rfl, ?_⟩
    repeat (first | with_reducible exact Below.refl _ _ | with_reducible exact B1 | with_reducible apply below_drewN | with_reducible apply Below.drew | (with_reducible refine Below.alloc ?_ (by first | (simp; done) | (simp; omega) | omega) _) | (with_reducible refine Below.setCell ?_ (by first | (simp; done) | (simp; omega) | omega) _))
  | false =>
    rw [he] at c1
    simp only [cn_false]
    clear he
    go_enter Try.func49, Try.ntmps49
    go_wp2_with (first | (go_at_call 65; (with_reducible refine (c1 _).mono ?_); rintro e w1 ⟨rfl, hb1⟩; have k1_b1_0 : w1.cell? ⟨w.heap.size, 0, none⟩ = some (.int .i64 a) := bcs hb1 (by go_simp); have g1_b1_0 : w1.frozen? ⟨w.heap.size, 0, none⟩ = false := bfs hb1 (v := .int .i64 a) (by go_simp) (by go_simp); have k1_b1_1 : w1.cell? ⟨w.heap.size, 1, none⟩ = some (.int .i64 b) := bcs hb1 (by go_simp); have g1_b1_1 : w1.frozen? ⟨w.heap.size, 1, none⟩ = false := bfs hb1 (v := .int .i64 b) (by go_simp) (by go_simp); have k1_b1_2 : w1.cell? ⟨w.heap.size, 2, none⟩ = some (.int .i64 c) := bcs hb1 (by go_simp); have g1_b1_2 : w1.frozen? ⟨w.heap.size, 2, none⟩ = false := bfs hb1 (v := .int .i64 c) (by go_simp) (by go_simp); have k1_b1_3 : w1.cell? ⟨w.heap.size, 3, none⟩ = some (.int .i64 d) := bcs hb1 (by go_simp); have g1_b1_3 : w1.frozen? ⟨w.heap.size, 3, none⟩ = false := bfs hb1 (v := .int .i64 d) (by go_simp) (by go_simp); have k1_b2_0 : w1.cell? ⟨w.heap.size + 1, 0, none⟩ = some (.int .i64 0) := bcs hb1 (by go_simp); have g1_b2_0 : w1.frozen? ⟨w.heap.size + 1, 0, none⟩ = false := bfs hb1 (v := .int .i64 0) (by go_simp) (by go_simp); have k1_b2_1 : w1.cell? ⟨w.heap.size + 1, 1, none⟩ = some (.int .i64 0) := bcs hb1 (by go_simp); have g1_b2_1 : w1.frozen? ⟨w.heap.size + 1, 1, none⟩ = false := bfs hb1 (v := .int .i64 0) (by go_simp) (by go_simp); have k1_b2_2 : w1.cell? ⟨w.heap.size + 1, 2, none⟩ = some (.int .i64 0) := bcs hb1 (by go_simp); have g1_b2_2 : w1.frozen? ⟨w.heap.size + 1, 2, none⟩ = false := bfs hb1 (v := .int .i64 0) (by go_simp) (by go_simp); have k1_b2_3 : w1.cell? ⟨w.heap.size + 1, 3, none⟩ = some (.int .i64 0) := bcs hb1 (by go_simp); have g1_b2_3 : w1.frozen? ⟨w.heap.size + 1, 3, none⟩ = false := bfs hb1 (v := .int .i64 0) (by go_simp) (by go_simp); have q1_b1 : w.heap.size < w1.heap.size := qlt k1_b1_0; have x1_b1 : ¬ w.heap.size = w1.heap.size := qne k1_b1_0; have y1_b1 : ¬ w1.heap.size = w.heap.size := fun h => qne k1_b1_0 h.symm; have q1_b2 : w.heap.size + 1 < w1.heap.size := qlt k1_b2_0; have x1_b2 : ¬ w.heap.size + 1 = w1.heap.size := qne k1_b2_0; have y1_b2 : ¬ w1.heap.size = w.heap.size + 1 := fun h => qne k1_b2_0 h.symm; have B1 : Below w.heap.size w w1 := bel_step (by repeat (first | with_reducible exact Below.refl _ _ | fail | with_reducible apply below_drewN | with_reducible apply Below.drew | (with_reducible refine Below.alloc ?_ (by first | (simp; done) | (simp; omega) | omega) _) | (with_reducible refine Below.setCell ?_ (by first | (simp; done) | (simp; omega) | omega) _))) hb1; have z1 : w.heap.size + 1 + 1 ≤ w1.heap.size := Nat.le_trans (by first | with_reducible assumption | (simp; done) | (simp; omega)) hb1.size; clear hb1))
    refine bodyPost_ret (v := .agg #[.int .i64 a, .int .i64 b, .int .i64 c, .int .i64 d]) (by simp [results, Try.results49, go_sem, *]) rfl ⟨rfl, ?_⟩
    repeat (first | with_reducible exact Below.refl _ _ | with_reducible exact B1 | with_reducible apply below_drewN | with_reducible apply Below.drew | (with_reducible refine Below.alloc ?_ (by first | (simp; done) | (simp; omega) | omega) _) | (with_reducible refine Below.setCell ?_ (by first | (simp; done) | (simp; omega) | omega) _))
end Go.Proofs.Ytfbgfnebodabpaa
