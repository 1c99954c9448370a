import Derived.Test.YtahdnlebokmajaaV3
import Derived.Test.YtahdnlebokmajaaVex
import Derived.Test.YtahdnlebokmajaaEnv
import Derived.WalkKit
import Derived.WalkSpells
import Derived.WalkLawsBesides
import Derived.Lib.Hide
import Derived.Below
import Derived.Deep.QuietTactic
import Derived.BigQuiet
import Derived.Deep.RegionHeld3
import Derived.Deep.DrawnRows
import Derived.Deep.DeepFit
import Derived.IntWalk
namespace Go.Proofs.Ytahdnlebokmajaa
open Go.RowKit
set_option linter.unusedVariables false
set_option linter.unusedSimpArgs false
attribute [local go_sem ↓] Go.wp_at_zero Go.wp_at_succ
attribute [local go_sem] rhoF_tmp rhoF_const rhoF_global rhoF_func
theorem vB_of2 (x y : Int) (h : vB x y = true) : hold x = x ∧ hold y = y ∧ -1048576 ≤ x ∧ x ≤ 1048576 ∧ -1048576 ≤ y ∧ y ≤ 1048576 := by
  obtain ⟨⟨h1, h2⟩, h3, h4⟩ := (vB_iff x y).1 h
  exact ⟨hold_id x h1 h2, hold_id y h3 h4, h1, h2, h3, h4⟩
theorem neq_pt (a b c d : Int) (W : World) : (binOp .neq 23 (.agg #[.int .i64 a, .int .i64 b]) (.agg #[.int .i64 c, .int .i64 d])).run Try.prog W = .ok (.bool (!(decide (a = c) && decide (b = d)))) W := by
  by_cases h1 : a = c <;> by_cases h2 : b = d
  · subst h1 h2; go_simp
  · have e2 : (b == d) = false := by simp [h2]
    rw [show (!(decide (a = c) && decide (b = d))) = true by simp [h2]]
    subst h1
    clear h2
    go_simp
  · have e1 : (a == c) = false := by simp [h1]
    rw [show (!(decide (a = c) && decide (b = d))) = true by simp [h1]]
    clear h1 h2
    go_simp
  · have e1 : (a == c) = false := by simp [h1]
    rw [show (!(decide (a = c) && decide (b = d))) = true by simp [h1]]
    clear h1 h2
    go_simp
theorem len_ex2 (x y : Int) (x0 : -1048576 ≤ x) (x1 : x ≤ 1048576) (y0 : -1048576 ≤ y) (y1 : y ≤ 1048576) : ∃ r : Int, 0 ≤ r ∧ r * r ≤ 65536 * (x * x + y * y) ∧ 65536 * (x * x + y * y) < (r + 1) * (r + 1) ∧ r ≤ 536870912 := by
  have mx := mul_bd x x 1048576 1048576 (by omega) (by omega) (by omega) (by omega)
  have my := mul_bd y y 1048576 1048576 (by omega) (by omega) (by omega) (by omega)
  have sx := sq_nonneg x
  have sy := sq_nonneg y
  obtain ⟨r, r0, r1, rr0, rr1, rr2, rr3⟩ := isqrt_int (65536 * (x * x + y * y)) (by omega) (by omega)
  refine ⟨r, r0, rr1, rr2, ?_⟩
  by_cases c : 536870913 ≤ r
  · have := Int.mul_le_mul c c (by omega) (by omega)
    omega
  · omega
/-- the order of two points: one comes first, or they are one point -/
theorem less_ord (x y u v : Int) (hx : hold x = x) (hy : hold y = y) (hu : hold u = u) (hv : hold v = v) :
    (lessB x y u v = true ∧ lessB u v x y = false ∧ (!(decide (x = u) && decide (y = v))) = true) ∨ (lessB x y u v = false ∧ lessB u v x y = true ∧ (!(decide (x = u) && decide (y = v))) = true) ∨
    (lessB x y u v = false ∧ lessB u v x y = false ∧ (!(decide (x = u) && decide (y = v))) = false) := by
  unfold lessB
  rw [hx, hy, hu, hv]
  rcases Int.lt_trichotomy y v with h | h | h
  · left; simp [h]; omega
  · subst h
    rcases Int.lt_trichotomy x u with k | k | k
    · left; simp [k]; omega
    · subst k; right; right; simp
    · right; left; simp [k]; omega
  · right; left; simp [h]; omega

set_option maxRecDepth 20000 in
set_option maxHeartbeats 16000000 in
theorem vecIdentities_w (x y u v : Int) (w : World) :
    Calls Try.prog 7 #[.agg #[.int .i64 x, .int .i64 y], .agg #[.int .i64 u, .int .i64 v]] w fun e w' => e = .returned (.bool true) ∧ Below w.heap.size w w' := by
  have v1 := fun w => vvalid_any x y w
  have v2 := fun w => vvalid_any u v w
  by_cases ha : vB x y = true
  case neg =>
    rw [show vB x y = false by simpa using ha] at v1
    clear v2
    go_enter Try.func7, Try.ntmps7
    go_wp2_with (first | (go_at_call 9; (with_reducible refine (v1 _).mono ?_); rintro e w1 ⟨rfl, hb1⟩; have k1_b2_0 : w1.cell? ⟨w.heap.size, 0, none⟩ = some (.int .i64 x) := bcs hb1 (by go_simp); have g1_b2_0 : w1.frozen? ⟨w.heap.size, 0, none⟩ = false := bfs hb1 (v := .int .i64 x) (by go_simp) (by go_simp); have k1_b2_1 : w1.cell? ⟨w.heap.size, 1, none⟩ = some (.int .i64 y) := bcs hb1 (by go_simp); have g1_b2_1 : w1.frozen? ⟨w.heap.size, 1, none⟩ = false := bfs hb1 (v := .int .i64 y) (by go_simp) (by go_simp); have k1_b3_0 : w1.cell? ⟨w.heap.size + 1, 0, none⟩ = some (.int .i64 u) := bcs hb1 (by go_simp); have g1_b3_0 : w1.frozen? ⟨w.heap.size + 1, 0, none⟩ = false := bfs hb1 (v := .int .i64 u) (by go_simp) (by go_simp); have k1_b3_1 : w1.cell? ⟨w.heap.size + 1, 1, none⟩ = some (.int .i64 v) := bcs hb1 (by go_simp); have g1_b3_1 : w1.frozen? ⟨w.heap.size + 1, 1, none⟩ = false := bfs hb1 (v := .int .i64 v) (by go_simp) (by go_simp); have q1_b2 : w.heap.size < w1.heap.size := qlt k1_b2_0; have x1_b2 : ¬ w.heap.size = w1.heap.size := qne k1_b2_0; have y1_b2 : ¬ w1.heap.size = w.heap.size := fun h => qne k1_b2_0 h.symm; have q1_b3 : w.heap.size + 1 < w1.heap.size := qlt k1_b3_0; have x1_b3 : ¬ w.heap.size + 1 = w1.heap.size := qne k1_b3_0; have y1_b3 : ¬ w1.heap.size = w.heap.size + 1 := fun h => qne k1_b3_0 h.symm; have B1 : Below w.heap.size w w1 := bel_step (by repeat (first | with_reducible exact Below.refl _ _ | fail | with_reducible apply below_drewN | with_reducible apply Below.drew | (with_reducible refine Below.alloc ?_ (by first | (simp; done) | (simp; omega) | omega) _) | (with_reducible refine Below.setCell ?_ (by first | (simp; done) | (simp; omega) | omega) _))) hb1; have z1 : w.heap.size + 1 + 1 ≤ w1.heap.size := Nat.le_trans (by first | with_reducible assumption | (simp; done) | (simp; omega)) hb1.size; clear hb1) | (go_at_call 25; (with_reducible refine (example_any _).mono ?_); rintro e w2 ⟨rfl, hb2⟩; have k2_b2_0 : w2.cell? ⟨w.heap.size, 0, none⟩ = some (.int .i64 x) := bcs hb2 (by go_simp); have g2_b2_0 : w2.frozen? ⟨w.heap.size, 0, none⟩ = false := bfs hb2 (v := .int .i64 x) (by go_simp) (by go_simp); have k2_b2_1 : w2.cell? ⟨w.heap.size, 1, none⟩ = some (.int .i64 y) := bcs hb2 (by go_simp); have g2_b2_1 : w2.frozen? ⟨w.heap.size, 1, none⟩ = false := bfs hb2 (v := .int .i64 y) (by go_simp) (by go_simp); have k2_b3_0 : w2.cell? ⟨w.heap.size + 1, 0, none⟩ = some (.int .i64 u) := bcs hb2 (by go_simp); have g2_b3_0 : w2.frozen? ⟨w.heap.size + 1, 0, none⟩ = false := bfs hb2 (v := .int .i64 u) (by go_simp) (by go_simp); have k2_b3_1 : w2.cell? ⟨w.heap.size + 1, 1, none⟩ = some (.int .i64 v) := bcs hb2 (by go_simp); have g2_b3_1 : w2.frozen? ⟨w.heap.size + 1, 1, none⟩ = false := bfs hb2 (v := .int .i64 v) (by go_simp) (by go_simp); have q2_b2 : w.heap.size < w2.heap.size := qlt k2_b2_0; have x2_b2 : ¬ w.heap.size = w2.heap.size := qne k2_b2_0; have y2_b2 : ¬ w2.heap.size = w.heap.size := fun h => qne k2_b2_0 h.symm; have q2_b3 : w.heap.size + 1 < w2.heap.size := qlt k2_b3_0; have x2_b3 : ¬ w.heap.size + 1 = w2.heap.size := qne k2_b3_0; have y2_b3 : ¬ w2.heap.size = w.heap.size + 1 := fun h => qne k2_b3_0 h.symm; have B2 : Below w.heap.size w w2 := bel_step (by repeat (first | with_reducible exact Below.refl _ _ | with_reducible exact B1 | with_reducible apply below_drewN | with_reducible apply Below.drew | (with_reducible refine Below.alloc ?_ (by first | (simp; done) | (simp; omega) | omega) _) | (with_reducible refine Below.setCell ?_ (by first | (simp; done) | (simp; omega) | omega) _))) hb2; have z2 : w.heap.size + 1 + 1 ≤ w2.heap.size := Nat.le_trans (by first | with_reducible assumption | (simp; done) | (simp; omega)) hb2.size; clear hb2; (try clear k1_b2_0); (try clear g1_b2_0); (try clear k1_b2_1); (try clear g1_b2_1); (try clear k1_b3_0); (try clear g1_b3_0); (try clear k1_b3_1); (try clear g1_b3_1); (try clear B1); (try clear z1); (try clear q1_b2); (try clear x1_b2); (try clear y1_b2); (try clear q1_b3); (try clear x1_b3); (try clear y1_b3)))
    go_ret
    refine ⟨rfl, ?_⟩
    repeat (first | with_reducible exact Below.refl _ _ | with_reducible exact B2 | with_reducible apply below_drewN | with_reducible apply Below.drew | (with_reducible refine Below.alloc ?_ (by first | (simp; done) | (simp; omega) | omega) _) | (with_reducible refine Below.setCell ?_ (by first | (simp; done) | (simp; omega) | omega) _))
  by_cases hb : vB u v = true
  case neg =>
    rw [ha] at v1
    rw [show vB u v = false by simpa using hb] at v2
    clear ha
    go_enter Try.func7, Try.ntmps7
    go_wp2_with (first | (go_at_call 9; (with_reducible refine (v1 _).mono ?_); rintro e w1 ⟨rfl, hb1⟩; have k1_b2_0 : w1.cell? ⟨w.heap.size, 0, none⟩ = some (.int .i64 x) := bcs hb1 (by go_simp); have g1_b2_0 : w1.frozen? ⟨w.heap.size, 0, none⟩ = false := bfs hb1 (v := .int .i64 x) (by go_simp) (by go_simp); have k1_b2_1 : w1.cell? ⟨w.heap.size, 1, none⟩ = some (.int .i64 y) := bcs hb1 (by go_simp); have g1_b2_1 : w1.frozen? ⟨w.heap.size, 1, none⟩ = false := bfs hb1 (v := .int .i64 y) (by go_simp) (by go_simp); have k1_b3_0 : w1.cell? ⟨w.heap.size + 1, 0, none⟩ = some (.int .i64 u) := bcs hb1 (by go_simp); have g1_b3_0 : w1.frozen? ⟨w.heap.size + 1, 0, none⟩ = false := bfs hb1 (v := .int .i64 u) (by go_simp) (by go_simp); have k1_b3_1 : w1.cell? ⟨w.heap.size + 1, 1, none⟩ = some (.int .i64 v) := bcs hb1 (by go_simp); have g1_b3_1 : w1.frozen? ⟨w.heap.size + 1, 1, none⟩ = false := bfs hb1 (v := .int .i64 v) (by go_simp) (by go_simp); have q1_b2 : w.heap.size < w1.heap.size := qlt k1_b2_0; have x1_b2 : ¬ w.heap.size = w1.heap.size := qne k1_b2_0; have y1_b2 : ¬ w1.heap.size = w.heap.size := fun h => qne k1_b2_0 h.symm; have q1_b3 : w.heap.size + 1 < w1.heap.size := qlt k1_b3_0; have x1_b3 : ¬ w.heap.size + 1 = w1.heap.size := qne k1_b3_0; have y1_b3 : ¬ w1.heap.size = w.heap.size + 1 := fun h => qne k1_b3_0 h.symm; have B1 : Below w.heap.size w w1 := bel_step (by repeat (first | with_reducible exact Below.refl _ _ | fail | with_reducible apply below_drewN | with_reducible apply Below.drew | (with_reducible refine Below.alloc ?_ (by first | (simp; done) | (simp; omega) | omega) _) | (with_reducible refine Below.setCell ?_ (by first | (simp; done) | (simp; omega) | omega) _))) hb1; have z1 : w.heap.size + 1 + 1 ≤ w1.heap.size := Nat.le_trans (by first | with_reducible assumption | (simp; done) | (simp; omega)) hb1.size; clear hb1) | (go_at_call 9; (with_reducible refine (v2 _).mono ?_); rintro e w2 ⟨rfl, hb2⟩; have k2_b2_0 : w2.cell? ⟨w.heap.size, 0, none⟩ = some (.int .i64 x) := bcs hb2 (by go_simp); have g2_b2_0 : w2.frozen? ⟨w.heap.size, 0, none⟩ = false := bfs hb2 (v := .int .i64 x) (by go_simp) (by go_simp); have k2_b2_1 : w2.cell? ⟨w.heap.size, 1, none⟩ = some (.int .i64 y) := bcs hb2 (by go_simp); have g2_b2_1 : w2.frozen? ⟨w.heap.size, 1, none⟩ = false := bfs hb2 (v := .int .i64 y) (by go_simp) (by go_simp); have k2_b3_0 : w2.cell? ⟨w.heap.size + 1, 0, none⟩ = some (.int .i64 u) := bcs hb2 (by go_simp); have g2_b3_0 : w2.frozen? ⟨w.heap.size + 1, 0, none⟩ = false := bfs hb2 (v := .int .i64 u) (by go_simp) (by go_simp); have k2_b3_1 : w2.cell? ⟨w.heap.size + 1, 1, none⟩ = some (.int .i64 v) := bcs hb2 (by go_simp); have g2_b3_1 : w2.frozen? ⟨w.heap.size + 1, 1, none⟩ = false := bfs hb2 (v := .int .i64 v) (by go_simp) (by go_simp); have q2_b2 : w.heap.size < w2.heap.size := qlt k2_b2_0; have x2_b2 : ¬ w.heap.size = w2.heap.size := qne k2_b2_0; have y2_b2 : ¬ w2.heap.size = w.heap.size := fun h => qne k2_b2_0 h.symm; have q2_b3 : w.heap.size + 1 < w2.heap.size := qlt k2_b3_0; have x2_b3 : ¬ w.heap.size + 1 = w2.heap.size := qne k2_b3_0; have y2_b3 : ¬ w2.heap.size = w.heap.size + 1 := fun h => qne k2_b3_0 h.symm; have B2 : Below w.heap.size w w2 := bel_step (by repeat (first | with_reducible exact Below.refl _ _ | with_reducible exact B1 | with_reducible apply below_drewN | with_reducible apply Below.drew | (with_reducible refine Below.alloc ?_ (by first | (simp; done) | (simp; omega) | omega) _) | (with_reducible refine Below.setCell ?_ (by first | (simp; done) | (simp; omega) | omega) _))) hb2; have z2 : w.heap.size + 1 + 1 ≤ w2.heap.size := Nat.le_trans (by first | with_reducible assumption | (simp; done) | (simp; omega)) hb2.size; clear hb2; (try clear k1_b2_0); (try clear g1_b2_0); (try clear k1_b2_1); (try clear g1_b2_1); (try clear k1_b3_0); (try clear g1_b3_0); (try clear k1_b3_1); (try clear g1_b3_1); (try clear B1); (try clear z1); (try clear q1_b2); (try clear x1_b2); (try clear y1_b2); (try clear q1_b3); (try clear x1_b3); (try clear y1_b3)) | (go_at_call 25; (with_reducible refine (example_any _).mono ?_); rintro e w3 ⟨rfl, hb3⟩; have k3_b2_0 : w3.cell? ⟨w.heap.size, 0, none⟩ = some (.int .i64 x) := bcs hb3 (by go_simp); have g3_b2_0 : w3.frozen? ⟨w.heap.size, 0, none⟩ = false := bfs hb3 (v := .int .i64 x) (by go_simp) (by go_simp); have k3_b2_1 : w3.cell? ⟨w.heap.size, 1, none⟩ = some (.int .i64 y) := bcs hb3 (by go_simp); have g3_b2_1 : w3.frozen? ⟨w.heap.size, 1, none⟩ = false := bfs hb3 (v := .int .i64 y) (by go_simp) (by go_simp); have k3_b3_0 : w3.cell? ⟨w.heap.size + 1, 0, none⟩ = some (.int .i64 u) := bcs hb3 (by go_simp); have g3_b3_0 : w3.frozen? ⟨w.heap.size + 1, 0, none⟩ = false := bfs hb3 (v := .int .i64 u) (by go_simp) (by go_simp); have k3_b3_1 : w3.cell? ⟨w.heap.size + 1, 1, none⟩ = some (.int .i64 v) := bcs hb3 (by go_simp); have g3_b3_1 : w3.frozen? ⟨w.heap.size + 1, 1, none⟩ = false := bfs hb3 (v := .int .i64 v) (by go_simp) (by go_simp); have q3_b2 : w.heap.size < w3.heap.size := qlt k3_b2_0; have x3_b2 : ¬ w.heap.size = w3.heap.size := qne k3_b2_0; have y3_b2 : ¬ w3.heap.size = w.heap.size := fun h => qne k3_b2_0 h.symm; have q3_b3 : w.heap.size + 1 < w3.heap.size := qlt k3_b3_0; have x3_b3 : ¬ w.heap.size + 1 = w3.heap.size := qne k3_b3_0; have y3_b3 : ¬ w3.heap.size = w.heap.size + 1 := fun h => qne k3_b3_0 h.symm; have B3 : Below w.heap.size w w3 := bel_step (by repeat (first | with_reducible exact Below.refl _ _ | with_reducible exact B2 | with_reducible apply below_drewN | with_reducible apply Below.drew | (with_reducible refine Below.alloc ?_ (by first | (simp; done) | (simp; omega) | omega) _) | (with_reducible refine Below.setCell ?_ (by first | (simp; done) | (simp; omega) | omega) _))) hb3; have z3 : w.heap.size + 1 + 1 ≤ w3.heap.size := Nat.le_trans (by first | with_reducible assumption | (simp; done) | (simp; omega)) hb3.size; clear hb3; (try clear k2_b2_0); (try clear g2_b2_0); (try clear k2_b2_1); (try clear g2_b2_1); (try clear k2_b3_0); (try clear g2_b3_0); (try clear k2_b3_1); (try clear g2_b3_1); (try clear B2); (try clear z2); (try clear q2_b2); (try clear x2_b2); (try clear y2_b2); (try clear q2_b3); (try clear x2_b3); (try clear y2_b3)))
    go_ret
    refine ⟨rfl, ?_⟩
    repeat (first | with_reducible exact Below.refl _ _ | with_reducible exact B3 | with_reducible apply below_drewN | with_reducible apply Below.drew | (with_reducible refine Below.alloc ?_ (by first | (simp; done) | (simp; omega) | omega) _) | (with_reducible refine Below.setCell ?_ (by first | (simp; done) | (simp; omega) | omega) _))
  rw [ha] at v1
  rw [hb] at v2
  obtain ⟨hx, hy, x0, x1, y0, y1⟩ := vB_of2 x y ha
  obtain ⟨hu, hv, u0, u1, v0, v1'⟩ := vB_of2 u v hb
  clear ha hb
  have hnx : hold (-x) = -x := hold_id _ (by omega) (by omega)
  have hny : hold (-y) = -y := hold_id _ (by omega) (by omega)
  have t1 := fun w => vperp_any x y w
  have t2 := fun w => vperp_any (-y) x w
  have t3 := fun w => vperp_any (-x) (-y) w
  have t4 := fun w => vperp_any y (-x) w
  rw [hx, hy] at t1
  rw [hx, hny] at t2
  rw [hnx, hny, Int.neg_neg] at t3
  rw [hy, hnx, Int.neg_neg] at t4
  have ad := fun w => vadd_any x y u v w
  have c1 := fun w => vcross_any x y u v w
  have c2 := fun w => vdot_any (-y) x u v w
  have c3 := fun w => vcross_any u v x y w
  have e1 := fun w => vdot_any x y u v w
  have e2 := fun w => vdot_any u v x y w
  have e3 := fun w => vdot_any x y (-y) x w
  have e4 := fun w => vdot_any x y x y w
  rw [hx, hy, hu, hv] at ad c1 c3 e1 e2
  rw [hny, hx, hu, hv] at c2
  rw [hx, hy, hny] at e3
  rw [hx, hy] at e4
  rw [show -y * u + x * v = x * v - y * u by grind] at c2
  rw [show u * y - v * x = -(x * v - y * u) by grind] at c3
  rw [show u * x + v * y = x * u + y * v by grind] at e2
  rw [show x * -y + y * x = 0 by grind] at e3
  have mc1 := mul_bd x v 1048576 1048576 (by omega) (by omega) (by omega) (by omega)
  have mc2 := mul_bd y u 1048576 1048576 (by omega) (by omega) (by omega) (by omega)
  have mg1 := mul_bd x x 1048576 1048576 (by omega) (by omega) (by omega) (by omega)
  have mg2 := mul_bd y y 1048576 1048576 (by omega) (by omega) (by omega) (by omega)
  have sx := sq_nonneg x
  have sy := sq_nonneg y
  obtain ⟨r, r0, g1, g2, r1⟩ := len_ex2 x y x0 x1 y0 y1
  have n1 := fun w => vlen_any x y r r0 (by rw [hx, hy]; exact g1) (by rw [hx, hy]; exact g2) r1 w
  have n2 := fun w => vlen_any (-y) x r r0 (by rw [hx, hny]; rw [show -y * -y + x * x = x * x + y * y by grind]; exact g1) (by rw [hx, hny]; rw [show -y * -y + x * x = x * x + y * y by grind]; exact g2) r1 w
  have hC : -4398046511104 ≤ x * v - y * u ∧ x * v - y * u ≤ 4398046511104 := by omega
  have hG : 0 ≤ x * x + y * y ∧ x * x + y * y ≤ 4398046511104 := by omega
  obtain ⟨C, eC⟩ : ∃ C, x * v - y * u = C := ⟨_, rfl⟩
  obtain ⟨E, eE⟩ : ∃ C, x * u + y * v = C := ⟨_, rfl⟩
  obtain ⟨G, eG⟩ : ∃ C, x * x + y * y = C := ⟨_, rfl⟩
  rw [eC] at c1 c2 c3 hC
  rw [eE] at e1 e2
  rw [eG] at e4 hG g1 g2
  clear eC eE eG mc1 mc2 mg1 mg2 sx sy
  obtain ⟨hC0, hC1⟩ := hC
  obtain ⟨hG0, hG1⟩ := hG
  have rr0 := Int.mul_nonneg r0 r0
  have rr2 := Int.mul_le_mul (show r + 1 ≤ 536870913 by omega) (show r + 1 ≤ 536870913 by omega) (show 0 ≤ r + 1 by omega) (by omega : (0 : Int) ≤ 536870913)
  have l1 := fun w => vless_any x y u v w
  have l2 := fun w => vless_any u v x y w
  have hord := less_ord x y u v hx hy hu hv
  have nq := fun w => neq_pt x y u v w
  have sb := fun w => vsub_any (x + u) (y + v) u v w
  rw [hu, hv] at sb
  have vs := fun w => vvalid_any (x + u) (y + v) w
  have np := fun w => neq_pt (hold (x + u) - u) (hold (y + v) - v) x y w
  by_cases hD : hold (x + u) - u = x ∧ hold (y + v) - v = y
  · rw [hD.1, hD.2] at sb
    clear np hD vs hx hy hu hv hnx hny
    obtain ⟨s1, es1⟩ : ∃ s, x + u = s := ⟨_, rfl⟩
    obtain ⟨s2, es2⟩ : ∃ s, y + v = s := ⟨_, rfl⟩
    rw [es1, es2] at ad sb
    clear es1 es2
    go_enter Try.func7, Try.ntmps7
    go_wp2_with (first | (go_at_call 9; (with_reducible refine (v1 _).mono ?_); rintro e w1 ⟨rfl, hb1⟩; have k1_b2_0 : w1.cell? ⟨w.heap.size, 0, none⟩ = some (.int .i64 x) := bcs hb1 (by go_simp); have g1_b2_0 : w1.frozen? ⟨w.heap.size, 0, none⟩ = false := bfs hb1 (v := .int .i64 x) (by go_simp) (by go_simp); have k1_b2_1 : w1.cell? ⟨w.heap.size, 1, none⟩ = some (.int .i64 y) := bcs hb1 (by go_simp); have g1_b2_1 : w1.frozen? ⟨w.heap.size, 1, none⟩ = false := bfs hb1 (v := .int .i64 y) (by go_simp) (by go_simp); have k1_b3_0 : w1.cell? ⟨w.heap.size + 1, 0, none⟩ = some (.int .i64 u) := bcs hb1 (by go_simp); have g1_b3_0 : w1.frozen? ⟨w.heap.size + 1, 0, none⟩ = false := bfs hb1 (v := .int .i64 u) (by go_simp) (by go_simp); have k1_b3_1 : w1.cell? ⟨w.heap.size + 1, 1, none⟩ = some (.int .i64 v) := bcs hb1 (by go_simp); have g1_b3_1 : w1.frozen? ⟨w.heap.size + 1, 1, none⟩ = false := bfs hb1 (v := .int .i64 v) (by go_simp) (by go_simp); have q1_b2 : w.heap.size < w1.heap.size := qlt k1_b2_0; have x1_b2 : ¬ w.heap.size = w1.heap.size := qne k1_b2_0; have y1_b2 : ¬ w1.heap.size = w.heap.size := fun h => qne k1_b2_0 h.symm; have q1_b3 : w.heap.size + 1 < w1.heap.size := qlt k1_b3_0; have x1_b3 : ¬ w.heap.size + 1 = w1.heap.size := qne k1_b3_0; have y1_b3 : ¬ w1.heap.size = w.heap.size + 1 := fun h => qne k1_b3_0 h.symm; have B1 : Below w.heap.size w w1 := bel_step (by repeat (first | with_reducible exact Below.refl _ _ | fail | with_reducible apply below_drewN | with_reducible apply Below.drew | (with_reducible refine Below.alloc ?_ (by first | (simp; done) | (simp; omega) | omega) _) | (with_reducible refine Below.setCell ?_ (by first | (simp; done) | (simp; omega) | omega) _))) hb1; have z1 : w.heap.size + 1 + 1 ≤ w1.heap.size := Nat.le_trans (by first | with_reducible assumption | (simp; done) | (simp; omega)) hb1.size; clear hb1) | (go_at_call 9; (with_reducible refine (v2 _).mono ?_); rintro e w2 ⟨rfl, hb2⟩; have k2_b2_0 : w2.cell? ⟨w.heap.size, 0, none⟩ = some (.int .i64 x) := bcs hb2 (by go_simp); have g2_b2_0 : w2.frozen? ⟨w.heap.size, 0, none⟩ = false := bfs hb2 (v := .int .i64 x) (by go_simp) (by go_simp); have k2_b2_1 : w2.cell? ⟨w.heap.size, 1, none⟩ = some (.int .i64 y) := bcs hb2 (by go_simp); have g2_b2_1 : w2.frozen? ⟨w.heap.size, 1, none⟩ = false := bfs hb2 (v := .int .i64 y) (by go_simp) (by go_simp); have k2_b3_0 : w2.cell? ⟨w.heap.size + 1, 0, none⟩ = some (.int .i64 u) := bcs hb2 (by go_simp); have g2_b3_0 : w2.frozen? ⟨w.heap.size + 1, 0, none⟩ = false := bfs hb2 (v := .int .i64 u) (by go_simp) (by go_simp); have k2_b3_1 : w2.cell? ⟨w.heap.size + 1, 1, none⟩ = some (.int .i64 v) := bcs hb2 (by go_simp); have g2_b3_1 : w2.frozen? ⟨w.heap.size + 1, 1, none⟩ = false := bfs hb2 (v := .int .i64 v) (by go_simp) (by go_simp); have q2_b2 : w.heap.size < w2.heap.size := qlt k2_b2_0; have x2_b2 : ¬ w.heap.size = w2.heap.size := qne k2_b2_0; have y2_b2 : ¬ w2.heap.size = w.heap.size := fun h => qne k2_b2_0 h.symm; have q2_b3 : w.heap.size + 1 < w2.heap.size := qlt k2_b3_0; have x2_b3 : ¬ w.heap.size + 1 = w2.heap.size := qne k2_b3_0; have y2_b3 : ¬ w2.heap.size = w.heap.size + 1 := fun h => qne k2_b3_0 h.symm; have B2 : Below w.heap.size w w2 := bel_step (by repeat (first | with_reducible exact Below.refl _ _ | with_reducible exact B1 | with_reducible apply below_drewN | with_reducible apply Below.drew | (with_reducible refine Below.alloc ?_ (by first | (simp; done) | (simp; omega) | omega) _) | (with_reducible refine Below.setCell ?_ (by first | (simp; done) | (simp; omega) | omega) _))) hb2; have z2 : w.heap.size + 1 + 1 ≤ w2.heap.size := Nat.le_trans (by first | with_reducible assumption | (simp; done) | (simp; omega)) hb2.size; clear hb2; (try clear k1_b2_0); (try clear g1_b2_0); (try clear k1_b2_1); (try clear g1_b2_1); (try clear k1_b3_0); (try clear g1_b3_0); (try clear k1_b3_1); (try clear g1_b3_1); (try clear B1); (try clear z1); (try clear q1_b2); (try clear x1_b2); (try clear y1_b2); (try clear q1_b3); (try clear x1_b3); (try clear y1_b3)) | (go_at_call 15; (with_reducible refine (t1 _).mono ?_); rintro e w3 ⟨rfl, hb3⟩; have k3_b2_0 : w3.cell? ⟨w.heap.size, 0, none⟩ = some (.int .i64 x) := bcs hb3 (by go_simp); have g3_b2_0 : w3.frozen? ⟨w.heap.size, 0, none⟩ = false := bfs hb3 (v := .int .i64 x) (by go_simp) (by go_simp); have k3_b2_1 : w3.cell? ⟨w.heap.size, 1, none⟩ = some (.int .i64 y) := bcs hb3 (by go_simp); have g3_b2_1 : w3.frozen? ⟨w.heap.size, 1, none⟩ = false := bfs hb3 (v := .int .i64 y) (by go_simp) (by go_simp); have k3_b3_0 : w3.cell? ⟨w.heap.size + 1, 0, none⟩ = some (.int .i64 u) := bcs hb3 (by go_simp); have g3_b3_0 : w3.frozen? ⟨w.heap.size + 1, 0, none⟩ = false := bfs hb3 (v := .int .i64 u) (by go_simp) (by go_simp); have k3_b3_1 : w3.cell? ⟨w.heap.size + 1, 1, none⟩ = some (.int .i64 v) := bcs hb3 (by go_simp); have g3_b3_1 : w3.frozen? ⟨w.heap.size + 1, 1, none⟩ = false := bfs hb3 (v := .int .i64 v) (by go_simp) (by go_simp); have q3_b2 : w.heap.size < w3.heap.size := qlt k3_b2_0; have x3_b2 : ¬ w.heap.size = w3.heap.size := qne k3_b2_0; have y3_b2 : ¬ w3.heap.size = w.heap.size := fun h => qne k3_b2_0 h.symm; have q3_b3 : w.heap.size + 1 < w3.heap.size := qlt k3_b3_0; have x3_b3 : ¬ w.heap.size + 1 = w3.heap.size := qne k3_b3_0; have y3_b3 : ¬ w3.heap.size = w.heap.size + 1 := fun h => qne k3_b3_0 h.symm; have B3 : Below w.heap.size w w3 := bel_step (by repeat (first | with_reducible exact Below.refl _ _ | with_reducible exact B2 | with_reducible apply below_drewN | with_reducible apply Below.drew | (with_reducible refine Below.alloc ?_ (by first | (simp; done) | (simp; omega) | omega) _) | (with_reducible refine Below.setCell ?_ (by first | (simp; done) | (simp; omega) | omega) _))) hb3; have z3 : w.heap.size + 1 + 1 ≤ w3.heap.size := Nat.le_trans (by first | with_reducible assumption | (simp; done) | (simp; omega)) hb3.size; clear hb3; (try clear k2_b2_0); (try clear g2_b2_0); (try clear k2_b2_1); (try clear g2_b2_1); (try clear k2_b3_0); (try clear g2_b3_0); (try clear k2_b3_1); (try clear g2_b3_1); (try clear B2); (try clear z2); (try clear q2_b2); (try clear x2_b2); (try clear y2_b2); (try clear q2_b3); (try clear x2_b3); (try clear y2_b3)))
    refine wp_region_env (fun w' => w'.cell? ⟨w.heap.size, 0, none⟩ = some (.int .i64 x) ∧ w'.frozen? ⟨w.heap.size, 0, none⟩ = false ∧ w'.cell? ⟨w.heap.size, 1, none⟩ = some (.int .i64 y) ∧ w'.frozen? ⟨w.heap.size, 1, none⟩ = false ∧ w'.cell? ⟨w.heap.size + 1, 0, none⟩ = some (.int .i64 u) ∧ w'.frozen? ⟨w.heap.size + 1, 0, none⟩ = false ∧ w'.cell? ⟨w.heap.size + 1, 1, none⟩ = some (.int .i64 v) ∧ w'.frozen? ⟨w.heap.size + 1, 1, none⟩ = false ∧ w'.cell? ⟨w3.heap.size, 0, none⟩ = some (.int .i64 (-y)) ∧ w'.frozen? ⟨w3.heap.size, 0, none⟩ = false ∧ w'.cell? ⟨w3.heap.size, 1, none⟩ = some (.int .i64 x) ∧ w'.frozen? ⟨w3.heap.size, 1, none⟩ = false) (fun W => W.cell? ⟨w.heap.size, 0, none⟩ = some (.int .i64 x) ∧ W.frozen? ⟨w.heap.size, 0, none⟩ = false ∧ W.cell? ⟨w.heap.size, 1, none⟩ = some (.int .i64 y) ∧ W.frozen? ⟨w.heap.size, 1, none⟩ = false ∧ W.cell? ⟨w.heap.size + 1, 0, none⟩ = some (.int .i64 u) ∧ W.frozen? ⟨w.heap.size + 1, 0, none⟩ = false ∧ W.cell? ⟨w.heap.size + 1, 1, none⟩ = some (.int .i64 v) ∧ W.frozen? ⟨w.heap.size + 1, 1, none⟩ = false ∧ W.cell? ⟨w3.heap.size, 0, none⟩ = some (.int .i64 (-y)) ∧ W.frozen? ⟨w3.heap.size, 0, none⟩ = false ∧ W.cell? ⟨w3.heap.size, 1, none⟩ = some (.int .i64 x) ∧ W.frozen? ⟨w3.heap.size, 1, none⟩ = false ∧ Below w.heap.size w W ∧ w.heap.size + 1 + 1 ≤ W.heap.size) 55 136 [.val (.agg #[.int .i64 x, .int .i64 y]), .val (.agg #[.int .i64 u, .int .i64 v]), .call 11 #[.agg #[.int .i64 x, .int .i64 y], .agg #[.int .i64 u, .int .i64 v]] (.agg #[.int .i64 s1, .int .i64 s2]), .val (.agg #[.int .i64 u, .int .i64 v]), .call 13 #[.agg #[.int .i64 s1, .int .i64 s2], .agg #[.int .i64 u, .int .i64 v]] (.agg #[.int .i64 x, .int .i64 y]), .val (.agg #[.int .i64 x, .int .i64 y]), .val (.bool false), .val (.bool false), .skip, .skip, .skip, .skip, .val (.bool false), .val (.bool false), .val (.agg #[.int .i64 (-y), .int .i64 x]), .call 15 #[.agg #[.int .i64 (-y), .int .i64 x]] (.agg #[.int .i64 (-x), .int .i64 (-y)]), .call 15 #[.agg #[.int .i64 (-x), .int .i64 (-y)]] (.agg #[.int .i64 y, .int .i64 (-x)]), .call 15 #[.agg #[.int .i64 y, .int .i64 (-x)]] (.agg #[.int .i64 x, .int .i64 y]), .val (.agg #[.int .i64 x, .int .i64 y]), .val (.bool false), .val (.bool false), .val (.bool false), .val (.agg #[.int .i64 x, .int .i64 y]), .val (.agg #[.int .i64 u, .int .i64 v]), .call 19 #[.agg #[.int .i64 x, .int .i64 y], .agg #[.int .i64 u, .int .i64 v]] (.int .i64 C), .val (.agg #[.int .i64 (-y), .int .i64 x]), .val (.agg #[.int .i64 u, .int .i64 v]), .call 17 #[.agg #[.int .i64 (-y), .int .i64 x], .agg #[.int .i64 u, .int .i64 v]] (.int .i64 C), .val (.bool false), .val (.bool false), .val (.bool false), .val (.agg #[.int .i64 x, .int .i64 y]), .val (.agg #[.int .i64 u, .int .i64 v]), .call 19 #[.agg #[.int .i64 x, .int .i64 y], .agg #[.int .i64 u, .int .i64 v]] (.int .i64 C), .val (.agg #[.int .i64 u, .int .i64 v]), .val (.agg #[.int .i64 x, .int .i64 y]), .call 19 #[.agg #[.int .i64 u, .int .i64 v], .agg #[.int .i64 x, .int .i64 y]] (.int .i64 (-C)), .val (.int .i64 C), .val (.bool false), .val (.bool false), .val (.bool false), .val (.agg #[.int .i64 x, .int .i64 y]), .val (.agg #[.int .i64 u, .int .i64 v]), .call 17 #[.agg #[.int .i64 x, .int .i64 y], .agg #[.int .i64 u, .int .i64 v]] (.int .i64 E), .val (.agg #[.int .i64 u, .int .i64 v]), .val (.agg #[.int .i64 x, .int .i64 y]), .call 17 #[.agg #[.int .i64 u, .int .i64 v], .agg #[.int .i64 x, .int .i64 y]] (.int .i64 E), .val (.bool false), .val (.bool false), .val (.bool false), .val (.agg #[.int .i64 x, .int .i64 y]), .val (.agg #[.int .i64 (-y), .int .i64 x]), .call 17 #[.agg #[.int .i64 x, .int .i64 y], .agg #[.int .i64 (-y), .int .i64 x]] (.int .i64 0), .val (.bool false), .val (.bool false)] (by kernel_rfl) (by kernel_rfl) rfl (by kernel_rfl) (by rintro w1 w2 ⟨h0, h1, h2, h3, h4, h5, h6, h7, h8, h9, h10, h11⟩ hb; exact ⟨bcs hb h0, bfs hb h0 h1, bcs hb h2, bfs hb h2 h3, bcs hb h4, bfs hb h4 h5, bcs hb h6, bfs hb h6 h7, bcs hb h8, bfs hb h8 h9, bcs hb h10, bfs hb h10 h11⟩) ⟨by first | with_reducible assumption | go_simp, by first | with_reducible assumption | go_simp, by first | with_reducible assumption | go_simp, by first | with_reducible assumption | go_simp, by first | with_reducible assumption | go_simp, by first | with_reducible assumption | go_simp, by first | with_reducible assumption | go_simp, by first | with_reducible assumption | go_simp, by first | with_reducible assumption | go_simp, by first | with_reducible assumption | go_simp, by first | with_reducible assumption | go_simp, by first | with_reducible assumption | go_simp, by repeat (first | with_reducible exact Below.refl _ _ | with_reducible exact B3 | with_reducible apply below_drewN | with_reducible apply Below.drew | (with_reducible refine Below.alloc ?_ (by first | (simp; done) | (simp; omega) | omega) _) | (with_reducible refine Below.setCell ?_ (by first | (simp; done) | (simp; omega) | omega) _)), by first | with_reducible assumption | (simp; done) | (simp; omega)⟩ ?_ ?_
    · rintro W ⟨k4_b2_0, g4_b2_0, k4_b2_1, g4_b2_1, k4_b3_0, g4_b3_0, k4_b3_1, g4_b3_1, k4_g5_0, g4_g5_0, k4_g5_1, g4_g5_1, B4, z4⟩; exact ⟨k4_b2_0, g4_b2_0, k4_b2_1, g4_b2_1, k4_b3_0, g4_b3_0, k4_b3_1, g4_b3_1, k4_g5_0, g4_g5_0, k4_g5_1, g4_g5_1⟩
    (try clear B3)
    (try clear z3)
    (try clear k3_b2_0)
    (try clear g3_b2_0)
    (try clear k3_b2_1)
    (try clear g3_b2_1)
    (try clear k3_b3_0)
    (try clear g3_b3_0)
    (try clear k3_b3_1)
    (try clear g3_b3_1)
    (try clear k3_g5_0)
    (try clear g3_g5_0)
    (try clear k3_g5_1)
    (try clear g3_g5_1)
    (try clear q3_b2)
    (try clear x3_b2)
    (try clear y3_b2)
    (try clear q3_b3)
    (try clear x3_b3)
    (try clear y3_b3)
    (try clear q3_g5)
    (try clear x3_g5)
    (try clear y3_g5)
    rintro w4 ⟨k4_b2_0, g4_b2_0, k4_b2_1, g4_b2_1, k4_b3_0, g4_b3_0, k4_b3_1, g4_b3_1, k4_g5_0, g4_g5_0, k4_g5_1, g4_g5_1, B4, z4⟩ gg
    simp only [List.take_succ_cons, List.take_zero, List.drop_succ_cons, List.drop_zero, List.cons_append, List.nil_append, List.append_nil]
    refine obe_val (by rfl) ?_ ?_
    · clear k4_b2_0 g4_b2_0 k4_b2_1 g4_b2_1 k4_b3_0 g4_b3_0 k4_b3_1 g4_b3_1 k4_g5_0 g4_g5_0 k4_g5_1 g4_g5_1 B4 z4; intro f hf; have u2 : f 2 = (.pointer (some ⟨w.heap.size, 0, none⟩)) := (by rw [← hf]; rfl); clear hf; rintro w' ⟨h0, h1, h2, h3, h4, h5, h6, h7, h8, h9, h10, h11⟩; go_simp; try exact IntWalk.i64_in _ (by omega)
    refine obe_val (by rfl) ?_ ?_
    · clear k4_b2_0 g4_b2_0 k4_b2_1 g4_b2_1 k4_b3_0 g4_b3_0 k4_b3_1 g4_b3_1 k4_g5_0 g4_g5_0 k4_g5_1 g4_g5_1 B4 z4; intro f hf; have u3 : f 3 = (.pointer (some ⟨w.heap.size + 1, 0, none⟩)) := (by rw [← hf]; rfl); clear hf; rintro w' ⟨h0, h1, h2, h3, h4, h5, h6, h7, h8, h9, h10, h11⟩; go_simp; try exact IntWalk.i64_in _ (by omega)
    refine obe_call (by rfl) ?_ ?_ ?_
    · clear k4_b2_0 g4_b2_0 k4_b2_1 g4_b2_1 k4_b3_0 g4_b3_0 k4_b3_1 g4_b3_1 k4_g5_0 g4_g5_0 k4_g5_1 g4_g5_1 B4 z4; intro f hf; have u19 : f 19 = (.agg #[.int .i64 x, .int .i64 y]) := (by rw [← hf]; rfl); have u20 : f 20 = (.agg #[.int .i64 u, .int .i64 v]) := (by rw [← hf]; rfl); clear hf; intro w' _; simp only [execOp, resolve, invoke, rhoF_tmp, rhoF_func, rhoF_const, u19, u20, List.map_toArray, List.map_cons, List.map_nil]; go_simp
    · clear k4_b2_0 g4_b2_0 k4_b2_1 g4_b2_1 k4_b3_0 g4_b3_0 k4_b3_1 g4_b3_1 k4_g5_0 g4_g5_0 k4_g5_1 g4_g5_1 B4 z4; rintro w' ⟨h0, h1, h2, h3, h4, h5, h6, h7, h8, h9, h10, h11⟩; exact ad _
    refine obe_val (by rfl) ?_ ?_
    · clear k4_b2_0 g4_b2_0 k4_b2_1 g4_b2_1 k4_b3_0 g4_b3_0 k4_b3_1 g4_b3_1 k4_g5_0 g4_g5_0 k4_g5_1 g4_g5_1 B4 z4; intro f hf; have u3 : f 3 = (.pointer (some ⟨w.heap.size + 1, 0, none⟩)) := (by rw [← hf]; rfl); clear hf; rintro w' ⟨h0, h1, h2, h3, h4, h5, h6, h7, h8, h9, h10, h11⟩; go_simp; try exact IntWalk.i64_in _ (by omega)
    refine obe_call (by rfl) ?_ ?_ ?_
    · clear k4_b2_0 g4_b2_0 k4_b2_1 g4_b2_1 k4_b3_0 g4_b3_0 k4_b3_1 g4_b3_1 k4_g5_0 g4_g5_0 k4_g5_1 g4_g5_1 B4 z4; intro f hf; have u21 : f 21 = (.agg #[.int .i64 s1, .int .i64 s2]) := (by rw [← hf]; rfl); have u22 : f 22 = (.agg #[.int .i64 u, .int .i64 v]) := (by rw [← hf]; rfl); clear hf; intro w' _; simp only [execOp, resolve, invoke, rhoF_tmp, rhoF_func, rhoF_const, u21, u22, List.map_toArray, List.map_cons, List.map_nil]; go_simp
    · clear k4_b2_0 g4_b2_0 k4_b2_1 g4_b2_1 k4_b3_0 g4_b3_0 k4_b3_1 g4_b3_1 k4_g5_0 g4_g5_0 k4_g5_1 g4_g5_1 B4 z4; rintro w' ⟨h0, h1, h2, h3, h4, h5, h6, h7, h8, h9, h10, h11⟩; exact sb _
    refine obe_val (by rfl) ?_ ?_
    · clear k4_b2_0 g4_b2_0 k4_b2_1 g4_b2_1 k4_b3_0 g4_b3_0 k4_b3_1 g4_b3_1 k4_g5_0 g4_g5_0 k4_g5_1 g4_g5_1 B4 z4; intro f hf; have u2 : f 2 = (.pointer (some ⟨w.heap.size, 0, none⟩)) := (by rw [← hf]; rfl); clear hf; rintro w' ⟨h0, h1, h2, h3, h4, h5, h6, h7, h8, h9, h10, h11⟩; go_simp; try exact IntWalk.i64_in _ (by omega)
    refine obe_val (by rfl) ?_ ?_
    · clear k4_b2_0 g4_b2_0 k4_b2_1 g4_b2_1 k4_b3_0 g4_b3_0 k4_b3_1 g4_b3_1 k4_g5_0 g4_g5_0 k4_g5_1 g4_g5_1 B4 z4; intro f hf; have u23 : f 23 = (.agg #[.int .i64 x, .int .i64 y]) := (by rw [← hf]; rfl); have u24 : f 24 = (.agg #[.int .i64 x, .int .i64 y]) := (by rw [← hf]; rfl); clear hf; rintro w' ⟨h0, h1, h2, h3, h4, h5, h6, h7, h8, h9, h10, h11⟩; go_simp; try exact IntWalk.i64_in _ (by omega)
    refine obe_val (by rfl) ?_ ?_
    · clear k4_b2_0 g4_b2_0 k4_b2_1 g4_b2_1 k4_b3_0 g4_b3_0 k4_b3_1 g4_b3_1 k4_g5_0 g4_g5_0 k4_g5_1 g4_g5_1 B4 z4; intro f hf; have u25 : f 25 = (.bool false) := (by rw [← hf]; rfl); clear hf; rintro w' ⟨h0, h1, h2, h3, h4, h5, h6, h7, h8, h9, h10, h11⟩; go_simp; try exact IntWalk.i64_in _ (by omega)
    refine obe_skip (by rfl) ?_
    refine obe_skip (by rfl) ?_
    refine obe_skip (by rfl) ?_
    refine obe_skip (by rfl) ?_
    refine obe_val (by rfl) ?_ ?_
    · clear k4_b2_0 g4_b2_0 k4_b2_1 g4_b2_1 k4_b3_0 g4_b3_0 k4_b3_1 g4_b3_1 k4_g5_0 g4_g5_0 k4_g5_1 g4_g5_1 B4 z4; intro f hf; have u26 : f 26 = (.bool false) := (by rw [← hf]; rfl); clear hf; rintro w' ⟨h0, h1, h2, h3, h4, h5, h6, h7, h8, h9, h10, h11⟩; go_simp; try exact IntWalk.i64_in _ (by omega)
    refine obe_val (by rfl) ?_ ?_
    · clear k4_b2_0 g4_b2_0 k4_b2_1 g4_b2_1 k4_b3_0 g4_b3_0 k4_b3_1 g4_b3_1 k4_g5_0 g4_g5_0 k4_g5_1 g4_g5_1 B4 z4; intro f hf; have u31 : f 31 = (.bool false) := (by rw [← hf]; rfl); clear hf; rintro w' ⟨h0, h1, h2, h3, h4, h5, h6, h7, h8, h9, h10, h11⟩; go_simp; try exact IntWalk.i64_in _ (by omega)
    refine obe_val (by rfl) ?_ ?_
    · clear k4_b2_0 g4_b2_0 k4_b2_1 g4_b2_1 k4_b3_0 g4_b3_0 k4_b3_1 g4_b3_1 k4_g5_0 g4_g5_0 k4_g5_1 g4_g5_1 B4 z4; intro f hf; have u5 : f 5 = (.pointer (some ⟨w3.heap.size, 0, none⟩)) := (by rw [← hf]; rfl); clear hf; rintro w' ⟨h0, h1, h2, h3, h4, h5, h6, h7, h8, h9, h10, h11⟩; go_simp; try exact IntWalk.i64_in _ (by omega)
    refine obe_call (by rfl) ?_ ?_ ?_
    · clear k4_b2_0 g4_b2_0 k4_b2_1 g4_b2_1 k4_b3_0 g4_b3_0 k4_b3_1 g4_b3_1 k4_g5_0 g4_g5_0 k4_g5_1 g4_g5_1 B4 z4; intro f hf; have u33 : f 33 = (.agg #[.int .i64 (-y), .int .i64 x]) := (by rw [← hf]; rfl); clear hf; intro w' _; simp only [execOp, resolve, invoke, rhoF_tmp, rhoF_func, rhoF_const, u33, List.map_toArray, List.map_cons, List.map_nil]; go_simp
    · clear k4_b2_0 g4_b2_0 k4_b2_1 g4_b2_1 k4_b3_0 g4_b3_0 k4_b3_1 g4_b3_1 k4_g5_0 g4_g5_0 k4_g5_1 g4_g5_1 B4 z4; rintro w' ⟨h0, h1, h2, h3, h4, h5, h6, h7, h8, h9, h10, h11⟩; exact t2 _
    refine obe_call (by rfl) ?_ ?_ ?_
    · clear k4_b2_0 g4_b2_0 k4_b2_1 g4_b2_1 k4_b3_0 g4_b3_0 k4_b3_1 g4_b3_1 k4_g5_0 g4_g5_0 k4_g5_1 g4_g5_1 B4 z4; intro f hf; have u34 : f 34 = (.agg #[.int .i64 (-x), .int .i64 (-y)]) := (by rw [← hf]; rfl); clear hf; intro w' _; simp only [execOp, resolve, invoke, rhoF_tmp, rhoF_func, rhoF_const, u34, List.map_toArray, List.map_cons, List.map_nil]; go_simp
    · clear k4_b2_0 g4_b2_0 k4_b2_1 g4_b2_1 k4_b3_0 g4_b3_0 k4_b3_1 g4_b3_1 k4_g5_0 g4_g5_0 k4_g5_1 g4_g5_1 B4 z4; rintro w' ⟨h0, h1, h2, h3, h4, h5, h6, h7, h8, h9, h10, h11⟩; exact t3 _
    refine obe_call (by rfl) ?_ ?_ ?_
    · clear k4_b2_0 g4_b2_0 k4_b2_1 g4_b2_1 k4_b3_0 g4_b3_0 k4_b3_1 g4_b3_1 k4_g5_0 g4_g5_0 k4_g5_1 g4_g5_1 B4 z4; intro f hf; have u35 : f 35 = (.agg #[.int .i64 y, .int .i64 (-x)]) := (by rw [← hf]; rfl); clear hf; intro w' _; simp only [execOp, resolve, invoke, rhoF_tmp, rhoF_func, rhoF_const, u35, List.map_toArray, List.map_cons, List.map_nil]; go_simp
    · clear k4_b2_0 g4_b2_0 k4_b2_1 g4_b2_1 k4_b3_0 g4_b3_0 k4_b3_1 g4_b3_1 k4_g5_0 g4_g5_0 k4_g5_1 g4_g5_1 B4 z4; rintro w' ⟨h0, h1, h2, h3, h4, h5, h6, h7, h8, h9, h10, h11⟩; exact t4 _
    refine obe_val (by rfl) ?_ ?_
    · clear k4_b2_0 g4_b2_0 k4_b2_1 g4_b2_1 k4_b3_0 g4_b3_0 k4_b3_1 g4_b3_1 k4_g5_0 g4_g5_0 k4_g5_1 g4_g5_1 B4 z4; intro f hf; have u2 : f 2 = (.pointer (some ⟨w.heap.size, 0, none⟩)) := (by rw [← hf]; rfl); clear hf; rintro w' ⟨h0, h1, h2, h3, h4, h5, h6, h7, h8, h9, h10, h11⟩; go_simp; try exact IntWalk.i64_in _ (by omega)
    refine obe_val (by rfl) ?_ ?_
    · clear k4_b2_0 g4_b2_0 k4_b2_1 g4_b2_1 k4_b3_0 g4_b3_0 k4_b3_1 g4_b3_1 k4_g5_0 g4_g5_0 k4_g5_1 g4_g5_1 B4 z4; intro f hf; have u36 : f 36 = (.agg #[.int .i64 x, .int .i64 y]) := (by rw [← hf]; rfl); have u37 : f 37 = (.agg #[.int .i64 x, .int .i64 y]) := (by rw [← hf]; rfl); clear hf; rintro w' ⟨h0, h1, h2, h3, h4, h5, h6, h7, h8, h9, h10, h11⟩; go_simp; try exact IntWalk.i64_in _ (by omega)
    refine obe_val (by rfl) ?_ ?_
    · clear k4_b2_0 g4_b2_0 k4_b2_1 g4_b2_1 k4_b3_0 g4_b3_0 k4_b3_1 g4_b3_1 k4_g5_0 g4_g5_0 k4_g5_1 g4_g5_1 B4 z4; intro f hf; have u32 : f 32 = (.bool false) := (by rw [← hf]; rfl); have u38 : f 38 = (.bool false) := (by rw [← hf]; rfl); clear hf; rintro w' ⟨h0, h1, h2, h3, h4, h5, h6, h7, h8, h9, h10, h11⟩; go_simp; try exact IntWalk.i64_in _ (by omega)
    refine obe_val (by rfl) ?_ ?_
    · clear k4_b2_0 g4_b2_0 k4_b2_1 g4_b2_1 k4_b3_0 g4_b3_0 k4_b3_1 g4_b3_1 k4_g5_0 g4_g5_0 k4_g5_1 g4_g5_1 B4 z4; intro f hf; have u39 : f 39 = (.bool false) := (by rw [← hf]; rfl); clear hf; rintro w' ⟨h0, h1, h2, h3, h4, h5, h6, h7, h8, h9, h10, h11⟩; go_simp; try exact IntWalk.i64_in _ (by omega)
    refine obe_val (by rfl) ?_ ?_
    · clear k4_b2_0 g4_b2_0 k4_b2_1 g4_b2_1 k4_b3_0 g4_b3_0 k4_b3_1 g4_b3_1 k4_g5_0 g4_g5_0 k4_g5_1 g4_g5_1 B4 z4; intro f hf; have u2 : f 2 = (.pointer (some ⟨w.heap.size, 0, none⟩)) := (by rw [← hf]; rfl); clear hf; rintro w' ⟨h0, h1, h2, h3, h4, h5, h6, h7, h8, h9, h10, h11⟩; go_simp; try exact IntWalk.i64_in _ (by omega)
    refine obe_val (by rfl) ?_ ?_
    · clear k4_b2_0 g4_b2_0 k4_b2_1 g4_b2_1 k4_b3_0 g4_b3_0 k4_b3_1 g4_b3_1 k4_g5_0 g4_g5_0 k4_g5_1 g4_g5_1 B4 z4; intro f hf; have u3 : f 3 = (.pointer (some ⟨w.heap.size + 1, 0, none⟩)) := (by rw [← hf]; rfl); clear hf; rintro w' ⟨h0, h1, h2, h3, h4, h5, h6, h7, h8, h9, h10, h11⟩; go_simp; try exact IntWalk.i64_in _ (by omega)
    refine obe_call (by rfl) ?_ ?_ ?_
    · clear k4_b2_0 g4_b2_0 k4_b2_1 g4_b2_1 k4_b3_0 g4_b3_0 k4_b3_1 g4_b3_1 k4_g5_0 g4_g5_0 k4_g5_1 g4_g5_1 B4 z4; intro f hf; have u41 : f 41 = (.agg #[.int .i64 x, .int .i64 y]) := (by rw [← hf]; rfl); have u42 : f 42 = (.agg #[.int .i64 u, .int .i64 v]) := (by rw [← hf]; rfl); clear hf; intro w' _; simp only [execOp, resolve, invoke, rhoF_tmp, rhoF_func, rhoF_const, u41, u42, List.map_toArray, List.map_cons, List.map_nil]; go_simp
    · clear k4_b2_0 g4_b2_0 k4_b2_1 g4_b2_1 k4_b3_0 g4_b3_0 k4_b3_1 g4_b3_1 k4_g5_0 g4_g5_0 k4_g5_1 g4_g5_1 B4 z4; rintro w' ⟨h0, h1, h2, h3, h4, h5, h6, h7, h8, h9, h10, h11⟩; exact c1 _
    refine obe_val (by rfl) ?_ ?_
    · clear k4_b2_0 g4_b2_0 k4_b2_1 g4_b2_1 k4_b3_0 g4_b3_0 k4_b3_1 g4_b3_1 k4_g5_0 g4_g5_0 k4_g5_1 g4_g5_1 B4 z4; intro f hf; have u5 : f 5 = (.pointer (some ⟨w3.heap.size, 0, none⟩)) := (by rw [← hf]; rfl); clear hf; rintro w' ⟨h0, h1, h2, h3, h4, h5, h6, h7, h8, h9, h10, h11⟩; go_simp; try exact IntWalk.i64_in _ (by omega)
    refine obe_val (by rfl) ?_ ?_
    · clear k4_b2_0 g4_b2_0 k4_b2_1 g4_b2_1 k4_b3_0 g4_b3_0 k4_b3_1 g4_b3_1 k4_g5_0 g4_g5_0 k4_g5_1 g4_g5_1 B4 z4; intro f hf; have u3 : f 3 = (.pointer (some ⟨w.heap.size + 1, 0, none⟩)) := (by rw [← hf]; rfl); clear hf; rintro w' ⟨h0, h1, h2, h3, h4, h5, h6, h7, h8, h9, h10, h11⟩; go_simp; try exact IntWalk.i64_in _ (by omega)
    refine obe_call (by rfl) ?_ ?_ ?_
    · clear k4_b2_0 g4_b2_0 k4_b2_1 g4_b2_1 k4_b3_0 g4_b3_0 k4_b3_1 g4_b3_1 k4_g5_0 g4_g5_0 k4_g5_1 g4_g5_1 B4 z4; intro f hf; have u44 : f 44 = (.agg #[.int .i64 (-y), .int .i64 x]) := (by rw [← hf]; rfl); have u45 : f 45 = (.agg #[.int .i64 u, .int .i64 v]) := (by rw [← hf]; rfl); clear hf; intro w' _; simp only [execOp, resolve, invoke, rhoF_tmp, rhoF_func, rhoF_const, u44, u45, List.map_toArray, List.map_cons, List.map_nil]; go_simp
    · clear k4_b2_0 g4_b2_0 k4_b2_1 g4_b2_1 k4_b3_0 g4_b3_0 k4_b3_1 g4_b3_1 k4_g5_0 g4_g5_0 k4_g5_1 g4_g5_1 B4 z4; rintro w' ⟨h0, h1, h2, h3, h4, h5, h6, h7, h8, h9, h10, h11⟩; exact c2 _
    refine obe_val (by rfl) ?_ ?_
    · clear k4_b2_0 g4_b2_0 k4_b2_1 g4_b2_1 k4_b3_0 g4_b3_0 k4_b3_1 g4_b3_1 k4_g5_0 g4_g5_0 k4_g5_1 g4_g5_1 B4 z4; intro f hf; have u43 : f 43 = (.int .i64 C) := (by rw [← hf]; rfl); have u46 : f 46 = (.int .i64 C) := (by rw [← hf]; rfl); clear hf; rintro w' ⟨h0, h1, h2, h3, h4, h5, h6, h7, h8, h9, h10, h11⟩; go_simp; try exact IntWalk.i64_in _ (by omega)
    refine obe_val (by rfl) ?_ ?_
    · clear k4_b2_0 g4_b2_0 k4_b2_1 g4_b2_1 k4_b3_0 g4_b3_0 k4_b3_1 g4_b3_1 k4_g5_0 g4_g5_0 k4_g5_1 g4_g5_1 B4 z4; intro f hf; have u40 : f 40 = (.bool false) := (by rw [← hf]; rfl); have u47 : f 47 = (.bool false) := (by rw [← hf]; rfl); clear hf; rintro w' ⟨h0, h1, h2, h3, h4, h5, h6, h7, h8, h9, h10, h11⟩; go_simp; try exact IntWalk.i64_in _ (by omega)
    refine obe_val (by rfl) ?_ ?_
    · clear k4_b2_0 g4_b2_0 k4_b2_1 g4_b2_1 k4_b3_0 g4_b3_0 k4_b3_1 g4_b3_1 k4_g5_0 g4_g5_0 k4_g5_1 g4_g5_1 B4 z4; intro f hf; have u48 : f 48 = (.bool false) := (by rw [← hf]; rfl); clear hf; rintro w' ⟨h0, h1, h2, h3, h4, h5, h6, h7, h8, h9, h10, h11⟩; go_simp; try exact IntWalk.i64_in _ (by omega)
    refine obe_val (by rfl) ?_ ?_
    · clear k4_b2_0 g4_b2_0 k4_b2_1 g4_b2_1 k4_b3_0 g4_b3_0 k4_b3_1 g4_b3_1 k4_g5_0 g4_g5_0 k4_g5_1 g4_g5_1 B4 z4; intro f hf; have u2 : f 2 = (.pointer (some ⟨w.heap.size, 0, none⟩)) := (by rw [← hf]; rfl); clear hf; rintro w' ⟨h0, h1, h2, h3, h4, h5, h6, h7, h8, h9, h10, h11⟩; go_simp; try exact IntWalk.i64_in _ (by omega)
    refine obe_val (by rfl) ?_ ?_
    · clear k4_b2_0 g4_b2_0 k4_b2_1 g4_b2_1 k4_b3_0 g4_b3_0 k4_b3_1 g4_b3_1 k4_g5_0 g4_g5_0 k4_g5_1 g4_g5_1 B4 z4; intro f hf; have u3 : f 3 = (.pointer (some ⟨w.heap.size + 1, 0, none⟩)) := (by rw [← hf]; rfl); clear hf; rintro w' ⟨h0, h1, h2, h3, h4, h5, h6, h7, h8, h9, h10, h11⟩; go_simp; try exact IntWalk.i64_in _ (by omega)
    refine obe_call (by rfl) ?_ ?_ ?_
    · clear k4_b2_0 g4_b2_0 k4_b2_1 g4_b2_1 k4_b3_0 g4_b3_0 k4_b3_1 g4_b3_1 k4_g5_0 g4_g5_0 k4_g5_1 g4_g5_1 B4 z4; intro f hf; have u50 : f 50 = (.agg #[.int .i64 x, .int .i64 y]) := (by rw [← hf]; rfl); have u51 : f 51 = (.agg #[.int .i64 u, .int .i64 v]) := (by rw [← hf]; rfl); clear hf; intro w' _; simp only [execOp, resolve, invoke, rhoF_tmp, rhoF_func, rhoF_const, u50, u51, List.map_toArray, List.map_cons, List.map_nil]; go_simp
    · clear k4_b2_0 g4_b2_0 k4_b2_1 g4_b2_1 k4_b3_0 g4_b3_0 k4_b3_1 g4_b3_1 k4_g5_0 g4_g5_0 k4_g5_1 g4_g5_1 B4 z4; rintro w' ⟨h0, h1, h2, h3, h4, h5, h6, h7, h8, h9, h10, h11⟩; exact c1 _
    refine obe_val (by rfl) ?_ ?_
    · clear k4_b2_0 g4_b2_0 k4_b2_1 g4_b2_1 k4_b3_0 g4_b3_0 k4_b3_1 g4_b3_1 k4_g5_0 g4_g5_0 k4_g5_1 g4_g5_1 B4 z4; intro f hf; have u3 : f 3 = (.pointer (some ⟨w.heap.size + 1, 0, none⟩)) := (by rw [← hf]; rfl); clear hf; rintro w' ⟨h0, h1, h2, h3, h4, h5, h6, h7, h8, h9, h10, h11⟩; go_simp; try exact IntWalk.i64_in _ (by omega)
    refine obe_val (by rfl) ?_ ?_
    · clear k4_b2_0 g4_b2_0 k4_b2_1 g4_b2_1 k4_b3_0 g4_b3_0 k4_b3_1 g4_b3_1 k4_g5_0 g4_g5_0 k4_g5_1 g4_g5_1 B4 z4; intro f hf; have u2 : f 2 = (.pointer (some ⟨w.heap.size, 0, none⟩)) := (by rw [← hf]; rfl); clear hf; rintro w' ⟨h0, h1, h2, h3, h4, h5, h6, h7, h8, h9, h10, h11⟩; go_simp; try exact IntWalk.i64_in _ (by omega)
    refine obe_call (by rfl) ?_ ?_ ?_
    · clear k4_b2_0 g4_b2_0 k4_b2_1 g4_b2_1 k4_b3_0 g4_b3_0 k4_b3_1 g4_b3_1 k4_g5_0 g4_g5_0 k4_g5_1 g4_g5_1 B4 z4; intro f hf; have u53 : f 53 = (.agg #[.int .i64 u, .int .i64 v]) := (by rw [← hf]; rfl); have u54 : f 54 = (.agg #[.int .i64 x, .int .i64 y]) := (by rw [← hf]; rfl); clear hf; intro w' _; simp only [execOp, resolve, invoke, rhoF_tmp, rhoF_func, rhoF_const, u53, u54, List.map_toArray, List.map_cons, List.map_nil]; go_simp
    · clear k4_b2_0 g4_b2_0 k4_b2_1 g4_b2_1 k4_b3_0 g4_b3_0 k4_b3_1 g4_b3_1 k4_g5_0 g4_g5_0 k4_g5_1 g4_g5_1 B4 z4; rintro w' ⟨h0, h1, h2, h3, h4, h5, h6, h7, h8, h9, h10, h11⟩; exact c3 _
    refine obe_val (by rfl) ?_ ?_
    · clear k4_b2_0 g4_b2_0 k4_b2_1 g4_b2_1 k4_b3_0 g4_b3_0 k4_b3_1 g4_b3_1 k4_g5_0 g4_g5_0 k4_g5_1 g4_g5_1 B4 z4; intro f hf; have u55 : f 55 = (.int .i64 (-C)) := (by rw [← hf]; rfl); clear hf; rintro w' ⟨h0, h1, h2, h3, h4, h5, h6, h7, h8, h9, h10, h11⟩; go_simp; try exact IntWalk.i64_in _ (by omega)
    refine obe_val (by rfl) ?_ ?_
    · clear k4_b2_0 g4_b2_0 k4_b2_1 g4_b2_1 k4_b3_0 g4_b3_0 k4_b3_1 g4_b3_1 k4_g5_0 g4_g5_0 k4_g5_1 g4_g5_1 B4 z4; intro f hf; have u52 : f 52 = (.int .i64 C) := (by rw [← hf]; rfl); have u56 : f 56 = (.int .i64 C) := (by rw [← hf]; rfl); clear hf; rintro w' ⟨h0, h1, h2, h3, h4, h5, h6, h7, h8, h9, h10, h11⟩; go_simp; try exact IntWalk.i64_in _ (by omega)
    refine obe_val (by rfl) ?_ ?_
    · clear k4_b2_0 g4_b2_0 k4_b2_1 g4_b2_1 k4_b3_0 g4_b3_0 k4_b3_1 g4_b3_1 k4_g5_0 g4_g5_0 k4_g5_1 g4_g5_1 B4 z4; intro f hf; have u49 : f 49 = (.bool false) := (by rw [← hf]; rfl); have u57 : f 57 = (.bool false) := (by rw [← hf]; rfl); clear hf; rintro w' ⟨h0, h1, h2, h3, h4, h5, h6, h7, h8, h9, h10, h11⟩; go_simp; try exact IntWalk.i64_in _ (by omega)
    refine obe_val (by rfl) ?_ ?_
    · clear k4_b2_0 g4_b2_0 k4_b2_1 g4_b2_1 k4_b3_0 g4_b3_0 k4_b3_1 g4_b3_1 k4_g5_0 g4_g5_0 k4_g5_1 g4_g5_1 B4 z4; intro f hf; have u58 : f 58 = (.bool false) := (by rw [← hf]; rfl); clear hf; rintro w' ⟨h0, h1, h2, h3, h4, h5, h6, h7, h8, h9, h10, h11⟩; go_simp; try exact IntWalk.i64_in _ (by omega)
    refine obe_val (by rfl) ?_ ?_
    · clear k4_b2_0 g4_b2_0 k4_b2_1 g4_b2_1 k4_b3_0 g4_b3_0 k4_b3_1 g4_b3_1 k4_g5_0 g4_g5_0 k4_g5_1 g4_g5_1 B4 z4; intro f hf; have u2 : f 2 = (.pointer (some ⟨w.heap.size, 0, none⟩)) := (by rw [← hf]; rfl); clear hf; rintro w' ⟨h0, h1, h2, h3, h4, h5, h6, h7, h8, h9, h10, h11⟩; go_simp; try exact IntWalk.i64_in _ (by omega)
    refine obe_val (by rfl) ?_ ?_
    · clear k4_b2_0 g4_b2_0 k4_b2_1 g4_b2_1 k4_b3_0 g4_b3_0 k4_b3_1 g4_b3_1 k4_g5_0 g4_g5_0 k4_g5_1 g4_g5_1 B4 z4; intro f hf; have u3 : f 3 = (.pointer (some ⟨w.heap.size + 1, 0, none⟩)) := (by rw [← hf]; rfl); clear hf; rintro w' ⟨h0, h1, h2, h3, h4, h5, h6, h7, h8, h9, h10, h11⟩; go_simp; try exact IntWalk.i64_in _ (by omega)
    refine obe_call (by rfl) ?_ ?_ ?_
    · clear k4_b2_0 g4_b2_0 k4_b2_1 g4_b2_1 k4_b3_0 g4_b3_0 k4_b3_1 g4_b3_1 k4_g5_0 g4_g5_0 k4_g5_1 g4_g5_1 B4 z4; intro f hf; have u60 : f 60 = (.agg #[.int .i64 x, .int .i64 y]) := (by rw [← hf]; rfl); have u61 : f 61 = (.agg #[.int .i64 u, .int .i64 v]) := (by rw [← hf]; rfl); clear hf; intro w' _; simp only [execOp, resolve, invoke, rhoF_tmp, rhoF_func, rhoF_const, u60, u61, List.map_toArray, List.map_cons, List.map_nil]; go_simp
    · clear k4_b2_0 g4_b2_0 k4_b2_1 g4_b2_1 k4_b3_0 g4_b3_0 k4_b3_1 g4_b3_1 k4_g5_0 g4_g5_0 k4_g5_1 g4_g5_1 B4 z4; rintro w' ⟨h0, h1, h2, h3, h4, h5, h6, h7, h8, h9, h10, h11⟩; exact e1 _
    refine obe_val (by rfl) ?_ ?_
    · clear k4_b2_0 g4_b2_0 k4_b2_1 g4_b2_1 k4_b3_0 g4_b3_0 k4_b3_1 g4_b3_1 k4_g5_0 g4_g5_0 k4_g5_1 g4_g5_1 B4 z4; intro f hf; have u3 : f 3 = (.pointer (some ⟨w.heap.size + 1, 0, none⟩)) := (by rw [← hf]; rfl); clear hf; rintro w' ⟨h0, h1, h2, h3, h4, h5, h6, h7, h8, h9, h10, h11⟩; go_simp; try exact IntWalk.i64_in _ (by omega)
    refine obe_val (by rfl) ?_ ?_
    · clear k4_b2_0 g4_b2_0 k4_b2_1 g4_b2_1 k4_b3_0 g4_b3_0 k4_b3_1 g4_b3_1 k4_g5_0 g4_g5_0 k4_g5_1 g4_g5_1 B4 z4; intro f hf; have u2 : f 2 = (.pointer (some ⟨w.heap.size, 0, none⟩)) := (by rw [← hf]; rfl); clear hf; rintro w' ⟨h0, h1, h2, h3, h4, h5, h6, h7, h8, h9, h10, h11⟩; go_simp; try exact IntWalk.i64_in _ (by omega)
    refine obe_call (by rfl) ?_ ?_ ?_
    · clear k4_b2_0 g4_b2_0 k4_b2_1 g4_b2_1 k4_b3_0 g4_b3_0 k4_b3_1 g4_b3_1 k4_g5_0 g4_g5_0 k4_g5_1 g4_g5_1 B4 z4; intro f hf; have u63 : f 63 = (.agg #[.int .i64 u, .int .i64 v]) := (by rw [← hf]; rfl); have u64 : f 64 = (.agg #[.int .i64 x, .int .i64 y]) := (by rw [← hf]; rfl); clear hf; intro w' _; simp only [execOp, resolve, invoke, rhoF_tmp, rhoF_func, rhoF_const, u63, u64, List.map_toArray, List.map_cons, List.map_nil]; go_simp
    · clear k4_b2_0 g4_b2_0 k4_b2_1 g4_b2_1 k4_b3_0 g4_b3_0 k4_b3_1 g4_b3_1 k4_g5_0 g4_g5_0 k4_g5_1 g4_g5_1 B4 z4; rintro w' ⟨h0, h1, h2, h3, h4, h5, h6, h7, h8, h9, h10, h11⟩; exact e2 _
    refine obe_val (by rfl) ?_ ?_
    · clear k4_b2_0 g4_b2_0 k4_b2_1 g4_b2_1 k4_b3_0 g4_b3_0 k4_b3_1 g4_b3_1 k4_g5_0 g4_g5_0 k4_g5_1 g4_g5_1 B4 z4; intro f hf; have u62 : f 62 = (.int .i64 E) := (by rw [← hf]; rfl); have u65 : f 65 = (.int .i64 E) := (by rw [← hf]; rfl); clear hf; rintro w' ⟨h0, h1, h2, h3, h4, h5, h6, h7, h8, h9, h10, h11⟩; go_simp; try exact IntWalk.i64_in _ (by omega)
    refine obe_val (by rfl) ?_ ?_
    · clear k4_b2_0 g4_b2_0 k4_b2_1 g4_b2_1 k4_b3_0 g4_b3_0 k4_b3_1 g4_b3_1 k4_g5_0 g4_g5_0 k4_g5_1 g4_g5_1 B4 z4; intro f hf; have u59 : f 59 = (.bool false) := (by rw [← hf]; rfl); have u66 : f 66 = (.bool false) := (by rw [← hf]; rfl); clear hf; rintro w' ⟨h0, h1, h2, h3, h4, h5, h6, h7, h8, h9, h10, h11⟩; go_simp; try exact IntWalk.i64_in _ (by omega)
    refine obe_val (by rfl) ?_ ?_
    · clear k4_b2_0 g4_b2_0 k4_b2_1 g4_b2_1 k4_b3_0 g4_b3_0 k4_b3_1 g4_b3_1 k4_g5_0 g4_g5_0 k4_g5_1 g4_g5_1 B4 z4; intro f hf; have u67 : f 67 = (.bool false) := (by rw [← hf]; rfl); clear hf; rintro w' ⟨h0, h1, h2, h3, h4, h5, h6, h7, h8, h9, h10, h11⟩; go_simp; try exact IntWalk.i64_in _ (by omega)
    refine obe_val (by rfl) ?_ ?_
    · clear k4_b2_0 g4_b2_0 k4_b2_1 g4_b2_1 k4_b3_0 g4_b3_0 k4_b3_1 g4_b3_1 k4_g5_0 g4_g5_0 k4_g5_1 g4_g5_1 B4 z4; intro f hf; have u2 : f 2 = (.pointer (some ⟨w.heap.size, 0, none⟩)) := (by rw [← hf]; rfl); clear hf; rintro w' ⟨h0, h1, h2, h3, h4, h5, h6, h7, h8, h9, h10, h11⟩; go_simp; try exact IntWalk.i64_in _ (by omega)
    refine obe_val (by rfl) ?_ ?_
    · clear k4_b2_0 g4_b2_0 k4_b2_1 g4_b2_1 k4_b3_0 g4_b3_0 k4_b3_1 g4_b3_1 k4_g5_0 g4_g5_0 k4_g5_1 g4_g5_1 B4 z4; intro f hf; have u5 : f 5 = (.pointer (some ⟨w3.heap.size, 0, none⟩)) := (by rw [← hf]; rfl); clear hf; rintro w' ⟨h0, h1, h2, h3, h4, h5, h6, h7, h8, h9, h10, h11⟩; go_simp; try exact IntWalk.i64_in _ (by omega)
    refine obe_call (by rfl) ?_ ?_ ?_
    · clear k4_b2_0 g4_b2_0 k4_b2_1 g4_b2_1 k4_b3_0 g4_b3_0 k4_b3_1 g4_b3_1 k4_g5_0 g4_g5_0 k4_g5_1 g4_g5_1 B4 z4; intro f hf; have u69 : f 69 = (.agg #[.int .i64 x, .int .i64 y]) := (by rw [← hf]; rfl); have u70 : f 70 = (.agg #[.int .i64 (-y), .int .i64 x]) := (by rw [← hf]; rfl); clear hf; intro w' _; simp only [execOp, resolve, invoke, rhoF_tmp, rhoF_func, rhoF_const, u69, u70, List.map_toArray, List.map_cons, List.map_nil]; go_simp
    · clear k4_b2_0 g4_b2_0 k4_b2_1 g4_b2_1 k4_b3_0 g4_b3_0 k4_b3_1 g4_b3_1 k4_g5_0 g4_g5_0 k4_g5_1 g4_g5_1 B4 z4; rintro w' ⟨h0, h1, h2, h3, h4, h5, h6, h7, h8, h9, h10, h11⟩; exact e3 _
    refine obe_val (by rfl) ?_ ?_
    · clear k4_b2_0 g4_b2_0 k4_b2_1 g4_b2_1 k4_b3_0 g4_b3_0 k4_b3_1 g4_b3_1 k4_g5_0 g4_g5_0 k4_g5_1 g4_g5_1 B4 z4; intro f hf; have u71 : f 71 = (.int .i64 0) := (by rw [← hf]; rfl); clear hf; rintro w' ⟨h0, h1, h2, h3, h4, h5, h6, h7, h8, h9, h10, h11⟩; go_simp; try exact IntWalk.i64_in _ (by omega)
    refine obe_val (by rfl) ?_ ?_
    · clear k4_b2_0 g4_b2_0 k4_b2_1 g4_b2_1 k4_b3_0 g4_b3_0 k4_b3_1 g4_b3_1 k4_g5_0 g4_g5_0 k4_g5_1 g4_g5_1 B4 z4; intro f hf; have u68 : f 68 = (.bool false) := (by rw [← hf]; rfl); have u72 : f 72 = (.bool false) := (by rw [← hf]; rfl); clear hf; rintro w' ⟨h0, h1, h2, h3, h4, h5, h6, h7, h8, h9, h10, h11⟩; go_simp; try exact IntWalk.i64_in _ (by omega)
    refine obe_nil ?_
    rintro w5 ⟨h0, h1, h2, h3, h4, h5, h6, h7, h8, h9, h10, h11⟩ hb5 hF
    (try simp only [List.nil_append, List.append_nil, List.cons_append] at hF)
    simp only [puts, putD, Act.put, List.setIfInBounds_toArray, List.set_cons_zero, List.set_cons_succ]
    clear hF
    have k5_b2_0 := bcs hb5 k4_b2_0
    have g5_b2_0 := bfs hb5 k4_b2_0 g4_b2_0
    have k5_b2_1 := bcs hb5 k4_b2_1
    have g5_b2_1 := bfs hb5 k4_b2_1 g4_b2_1
    have k5_b3_0 := bcs hb5 k4_b3_0
    have g5_b3_0 := bfs hb5 k4_b3_0 g4_b3_0
    have k5_b3_1 := bcs hb5 k4_b3_1
    have g5_b3_1 := bfs hb5 k4_b3_1 g4_b3_1
    have k5_g5_0 := bcs hb5 k4_g5_0
    have g5_g5_0 := bfs hb5 k4_g5_0 g4_g5_0
    have k5_g5_1 := bcs hb5 k4_g5_1
    have g5_g5_1 := bfs hb5 k4_g5_1 g4_g5_1
    clear h0 h1 h2 h3 h4 h5 h6 h7 h8 h9 h10 h11
    have B5 := bel_step B4 hb5
    have z5 := Nat.le_trans z4 hb5.size
    clear hb5
    (try clear B4)
    (try clear z4)
    (try clear k4_b2_0)
    (try clear g4_b2_0)
    (try clear k4_b2_1)
    (try clear g4_b2_1)
    (try clear k4_b3_0)
    (try clear g4_b3_0)
    (try clear k4_b3_1)
    (try clear g4_b3_1)
    (try clear k4_g5_0)
    (try clear g4_g5_0)
    (try clear k4_g5_1)
    (try clear g4_g5_1)
    (try clear q4_b2)
    (try clear x4_b2)
    (try clear y4_b2)
    (try clear q4_b3)
    (try clear x4_b3)
    (try clear y4_b3)
    (try clear q4_g5)
    (try clear x4_g5)
    (try clear y4_g5)
    have q5_b2 : w.heap.size < w5.heap.size := qlt k5_b2_0
    have x5_b2 : ¬ w.heap.size = w5.heap.size := qne k5_b2_0
    have y5_b2 : ¬ w5.heap.size = w.heap.size := fun h => qne k5_b2_0 h.symm
    have q5_b3 : w.heap.size + 1 < w5.heap.size := qlt k5_b3_0
    have x5_b3 : ¬ w.heap.size + 1 = w5.heap.size := qne k5_b3_0
    have y5_b3 : ¬ w5.heap.size = w.heap.size + 1 := fun h => qne k5_b3_0 h.symm
    have q5_g5 : w3.heap.size < w5.heap.size := qlt k5_g5_0
    have x5_g5 : ¬ w3.heap.size = w5.heap.size := qne k5_g5_0
    have y5_g5 : ¬ w5.heap.size = w3.heap.size := fun h => qne k5_g5_0 h.symm
    unfold wpList
    go_wp2_with (first | (go_at_call 21; (with_reducible refine (n1 _).mono ?_); rintro e w6 ⟨rfl, hb6⟩; have k6_b2_0 : w6.cell? ⟨w.heap.size, 0, none⟩ = some (.int .i64 x) := bcs hb6 (by go_simp); have g6_b2_0 : w6.frozen? ⟨w.heap.size, 0, none⟩ = false := bfs hb6 (v := .int .i64 x) (by go_simp) (by go_simp); have k6_b2_1 : w6.cell? ⟨w.heap.size, 1, none⟩ = some (.int .i64 y) := bcs hb6 (by go_simp); have g6_b2_1 : w6.frozen? ⟨w.heap.size, 1, none⟩ = false := bfs hb6 (v := .int .i64 y) (by go_simp) (by go_simp); have k6_b3_0 : w6.cell? ⟨w.heap.size + 1, 0, none⟩ = some (.int .i64 u) := bcs hb6 (by go_simp); have g6_b3_0 : w6.frozen? ⟨w.heap.size + 1, 0, none⟩ = false := bfs hb6 (v := .int .i64 u) (by go_simp) (by go_simp); have k6_b3_1 : w6.cell? ⟨w.heap.size + 1, 1, none⟩ = some (.int .i64 v) := bcs hb6 (by go_simp); have g6_b3_1 : w6.frozen? ⟨w.heap.size + 1, 1, none⟩ = false := bfs hb6 (v := .int .i64 v) (by go_simp) (by go_simp); have k6_g5_0 : w6.cell? ⟨w3.heap.size, 0, none⟩ = some (.int .i64 (-y)) := bcs hb6 (by go_simp); have g6_g5_0 : w6.frozen? ⟨w3.heap.size, 0, none⟩ = false := bfs hb6 (v := .int .i64 (-y)) (by go_simp) (by go_simp); have k6_g5_1 : w6.cell? ⟨w3.heap.size, 1, none⟩ = some (.int .i64 x) := bcs hb6 (by go_simp); have g6_g5_1 : w6.frozen? ⟨w3.heap.size, 1, none⟩ = false := bfs hb6 (v := .int .i64 x) (by go_simp) (by go_simp); have q6_b2 : w.heap.size < w6.heap.size := qlt k6_b2_0; have x6_b2 : ¬ w.heap.size = w6.heap.size := qne k6_b2_0; have y6_b2 : ¬ w6.heap.size = w.heap.size := fun h => qne k6_b2_0 h.symm; have q6_b3 : w.heap.size + 1 < w6.heap.size := qlt k6_b3_0; have x6_b3 : ¬ w.heap.size + 1 = w6.heap.size := qne k6_b3_0; have y6_b3 : ¬ w6.heap.size = w.heap.size + 1 := fun h => qne k6_b3_0 h.symm; have q6_g5 : w3.heap.size < w6.heap.size := qlt k6_g5_0; have x6_g5 : ¬ w3.heap.size = w6.heap.size := qne k6_g5_0; have y6_g5 : ¬ w6.heap.size = w3.heap.size := fun h => qne k6_g5_0 h.symm; have B6 : Below w.heap.size w w6 := bel_step (by repeat (first | with_reducible exact Below.refl _ _ | with_reducible exact B5 | with_reducible apply below_drewN | with_reducible apply Below.drew | (with_reducible refine Below.alloc ?_ (by first | (simp; done) | (simp; omega) | omega) _) | (with_reducible refine Below.setCell ?_ (by first | (simp; done) | (simp; omega) | omega) _))) hb6; have z6 : w.heap.size + 1 + 1 ≤ w6.heap.size := Nat.le_trans (by first | with_reducible assumption | (simp; done) | (simp; omega)) hb6.size; clear hb6; (try clear k5_b2_0); (try clear g5_b2_0); (try clear k5_b2_1); (try clear g5_b2_1); (try clear k5_b3_0); (try clear g5_b3_0); (try clear k5_b3_1); (try clear g5_b3_1); (try clear k5_g5_0); (try clear g5_g5_0); (try clear k5_g5_1); (try clear g5_g5_1); (try clear B5); (try clear z5); (try clear q5_b2); (try clear x5_b2); (try clear y5_b2); (try clear q5_b3); (try clear x5_b3); (try clear y5_b3); (try clear q5_g5); (try clear x5_g5); (try clear y5_g5)) | (go_at_call 17; (with_reducible refine (e4 _).mono ?_); rintro e w7 ⟨rfl, hb7⟩; have k7_b2_0 : w7.cell? ⟨w.heap.size, 0, none⟩ = some (.int .i64 x) := bcs hb7 (by go_simp); have g7_b2_0 : w7.frozen? ⟨w.heap.size, 0, none⟩ = false := bfs hb7 (v := .int .i64 x) (by go_simp) (by go_simp); have k7_b2_1 : w7.cell? ⟨w.heap.size, 1, none⟩ = some (.int .i64 y) := bcs hb7 (by go_simp); have g7_b2_1 : w7.frozen? ⟨w.heap.size, 1, none⟩ = false := bfs hb7 (v := .int .i64 y) (by go_simp) (by go_simp); have k7_b3_0 : w7.cell? ⟨w.heap.size + 1, 0, none⟩ = some (.int .i64 u) := bcs hb7 (by go_simp); have g7_b3_0 : w7.frozen? ⟨w.heap.size + 1, 0, none⟩ = false := bfs hb7 (v := .int .i64 u) (by go_simp) (by go_simp); have k7_b3_1 : w7.cell? ⟨w.heap.size + 1, 1, none⟩ = some (.int .i64 v) := bcs hb7 (by go_simp); have g7_b3_1 : w7.frozen? ⟨w.heap.size + 1, 1, none⟩ = false := bfs hb7 (v := .int .i64 v) (by go_simp) (by go_simp); have k7_g5_0 : w7.cell? ⟨w3.heap.size, 0, none⟩ = some (.int .i64 (-y)) := bcs hb7 (by go_simp); have g7_g5_0 : w7.frozen? ⟨w3.heap.size, 0, none⟩ = false := bfs hb7 (v := .int .i64 (-y)) (by go_simp) (by go_simp); have k7_g5_1 : w7.cell? ⟨w3.heap.size, 1, none⟩ = some (.int .i64 x) := bcs hb7 (by go_simp); have g7_g5_1 : w7.frozen? ⟨w3.heap.size, 1, none⟩ = false := bfs hb7 (v := .int .i64 x) (by go_simp) (by go_simp); have q7_b2 : w.heap.size < w7.heap.size := qlt k7_b2_0; have x7_b2 : ¬ w.heap.size = w7.heap.size := qne k7_b2_0; have y7_b2 : ¬ w7.heap.size = w.heap.size := fun h => qne k7_b2_0 h.symm; have q7_b3 : w.heap.size + 1 < w7.heap.size := qlt k7_b3_0; have x7_b3 : ¬ w.heap.size + 1 = w7.heap.size := qne k7_b3_0; have y7_b3 : ¬ w7.heap.size = w.heap.size + 1 := fun h => qne k7_b3_0 h.symm; have q7_g5 : w3.heap.size < w7.heap.size := qlt k7_g5_0; have x7_g5 : ¬ w3.heap.size = w7.heap.size := qne k7_g5_0; have y7_g5 : ¬ w7.heap.size = w3.heap.size := fun h => qne k7_g5_0 h.symm; have B7 : Below w.heap.size w w7 := bel_step (by repeat (first | with_reducible exact Below.refl _ _ | with_reducible exact B6 | with_reducible apply below_drewN | with_reducible apply Below.drew | (with_reducible refine Below.alloc ?_ (by first | (simp; done) | (simp; omega) | omega) _) | (with_reducible refine Below.setCell ?_ (by first | (simp; done) | (simp; omega) | omega) _))) hb7; have z7 : w.heap.size + 1 + 1 ≤ w7.heap.size := Nat.le_trans (by first | with_reducible assumption | (simp; done) | (simp; omega)) hb7.size; clear hb7; (try clear k6_b2_0); (try clear g6_b2_0); (try clear k6_b2_1); (try clear g6_b2_1); (try clear k6_b3_0); (try clear g6_b3_0); (try clear k6_b3_1); (try clear g6_b3_1); (try clear k6_g5_0); (try clear g6_g5_0); (try clear k6_g5_1); (try clear g6_g5_1); (try clear B6); (try clear z6); (try clear q6_b2); (try clear x6_b2); (try clear y6_b2); (try clear q6_b3); (try clear x6_b3); (try clear y6_b3); (try clear q6_g5); (try clear x6_g5); (try clear y6_g5)))
    rcases hord with ⟨j1, j2, j3⟩ | ⟨j1, j2, j3⟩ | ⟨j1, j2, j3⟩
    · rw [j1] at l1
      rw [j2] at l2
      rw [j3] at nq
      clear j1 j2 j3
      refine wp_region_env (fun w' => w'.cell? ⟨w.heap.size, 0, none⟩ = some (.int .i64 x) ∧ w'.frozen? ⟨w.heap.size, 0, none⟩ = false ∧ w'.cell? ⟨w.heap.size, 1, none⟩ = some (.int .i64 y) ∧ w'.frozen? ⟨w.heap.size, 1, none⟩ = false ∧ w'.cell? ⟨w.heap.size + 1, 0, none⟩ = some (.int .i64 u) ∧ w'.frozen? ⟨w.heap.size + 1, 0, none⟩ = false ∧ w'.cell? ⟨w.heap.size + 1, 1, none⟩ = some (.int .i64 v) ∧ w'.frozen? ⟨w.heap.size + 1, 1, none⟩ = false ∧ w'.cell? ⟨w3.heap.size, 0, none⟩ = some (.int .i64 (-y)) ∧ w'.frozen? ⟨w3.heap.size, 0, none⟩ = false ∧ w'.cell? ⟨w3.heap.size, 1, none⟩ = some (.int .i64 x) ∧ w'.frozen? ⟨w3.heap.size, 1, none⟩ = false) (fun W => W.cell? ⟨w.heap.size, 0, none⟩ = some (.int .i64 x) ∧ W.frozen? ⟨w.heap.size, 0, none⟩ = false ∧ W.cell? ⟨w.heap.size, 1, none⟩ = some (.int .i64 y) ∧ W.frozen? ⟨w.heap.size, 1, none⟩ = false ∧ W.cell? ⟨w.heap.size + 1, 0, none⟩ = some (.int .i64 u) ∧ W.frozen? ⟨w.heap.size + 1, 0, none⟩ = false ∧ W.cell? ⟨w.heap.size + 1, 1, none⟩ = some (.int .i64 v) ∧ W.frozen? ⟨w.heap.size + 1, 1, none⟩ = false ∧ W.cell? ⟨w3.heap.size, 0, none⟩ = some (.int .i64 (-y)) ∧ W.frozen? ⟨w3.heap.size, 0, none⟩ = false ∧ W.cell? ⟨w3.heap.size, 1, none⟩ = some (.int .i64 x) ∧ W.frozen? ⟨w3.heap.size, 1, none⟩ = false ∧ Below w.heap.size w W ∧ w.heap.size + 1 + 1 ≤ W.heap.size) 57 136 [.val (.int .i64 r), .val (.bool true), .val (.bool true), .val (.int .i64 r), .val (.bool true), .val (.bool true), .val (.bool true), .val (.int .i64 r), .val (.int .i64 r), .val (.int .i64 (r * r)), .val (.int .i64 (65536 * G)), .val (.bool true), .val (.bool true), .val (.bool true), .val (.int .i64 r), .val (.int .i64 (r + 1)), .val (.int .i64 r), .val (.int .i64 (r + 1)), .val (.int .i64 ((r + 1) * (r + 1))), .val (.int .i64 (65536 * G)), .val (.bool true), .val (.bool true), .val (.bool true), .val (.agg #[.int .i64 (-y), .int .i64 x]), .call 21 #[.agg #[.int .i64 (-y), .int .i64 x]] (.int .i64 r), .val (.int .i64 r), .val (.bool true), .val (.bool true), .val (.bool true), .val (.agg #[.int .i64 x, .int .i64 y]), .val (.agg #[.int .i64 u, .int .i64 v]), .call 23 #[.agg #[.int .i64 x, .int .i64 y], .agg #[.int .i64 u, .int .i64 v]] (.bool true), .val (.bool true), .skip, .skip, .skip, .val (.bool true), .val (.agg #[.int .i64 x, .int .i64 y]), .val (.agg #[.int .i64 u, .int .i64 v]), .val (.bool true), .val (.bool true), .val (.bool true), .val (.bool true), .val (.agg #[.int .i64 x, .int .i64 y]), .val (.agg #[.int .i64 u, .int .i64 v]), .call 23 #[.agg #[.int .i64 x, .int .i64 y], .agg #[.int .i64 u, .int .i64 v]] (.bool true), .val (.bool true), .val (.agg #[.int .i64 u, .int .i64 v]), .val (.agg #[.int .i64 x, .int .i64 y]), .call 23 #[.agg #[.int .i64 u, .int .i64 v], .agg #[.int .i64 x, .int .i64 y]] (.bool false), .val (.bool false), .val (.bool true), .val (.bool true), .val (.bool true), .call 25 #[] (.bool true), .val (.bool true), .val (.bool true)] (by kernel_rfl) (by kernel_rfl) rfl (by kernel_rfl) (by rintro w1 w2 ⟨h0, h1, h2, h3, h4, h5, h6, h7, h8, h9, h10, h11⟩ hb; exact ⟨bcs hb h0, bfs hb h0 h1, bcs hb h2, bfs hb h2 h3, bcs hb h4, bfs hb h4 h5, bcs hb h6, bfs hb h6 h7, bcs hb h8, bfs hb h8 h9, bcs hb h10, bfs hb h10 h11⟩) ⟨by first | with_reducible assumption | go_simp, by first | with_reducible assumption | go_simp, by first | with_reducible assumption | go_simp, by first | with_reducible assumption | go_simp, by first | with_reducible assumption | go_simp, by first | with_reducible assumption | go_simp, by first | with_reducible assumption | go_simp, by first | with_reducible assumption | go_simp, by first | with_reducible assumption | go_simp, by first | with_reducible assumption | go_simp, by first | with_reducible assumption | go_simp, by first | with_reducible assumption | go_simp, by repeat (first | with_reducible exact Below.refl _ _ | with_reducible exact B7 | with_reducible apply below_drewN | with_reducible apply Below.drew | (with_reducible refine Below.alloc ?_ (by first | (simp; done) | (simp; omega) | omega) _) | (with_reducible refine Below.setCell ?_ (by first | (simp; done) | (simp; omega) | omega) _)), by first | with_reducible assumption | (simp; done) | (simp; omega)⟩ ?_ ?_
      · rintro W ⟨k8_b2_0, g8_b2_0, k8_b2_1, g8_b2_1, k8_b3_0, g8_b3_0, k8_b3_1, g8_b3_1, k8_g5_0, g8_g5_0, k8_g5_1, g8_g5_1, B8, z8⟩; exact ⟨k8_b2_0, g8_b2_0, k8_b2_1, g8_b2_1, k8_b3_0, g8_b3_0, k8_b3_1, g8_b3_1, k8_g5_0, g8_g5_0, k8_g5_1, g8_g5_1⟩
      (try clear B7)
      (try clear z7)
      (try clear k7_b2_0)
      (try clear g7_b2_0)
      (try clear k7_b2_1)
      (try clear g7_b2_1)
      (try clear k7_b3_0)
      (try clear g7_b3_0)
      (try clear k7_b3_1)
      (try clear g7_b3_1)
      (try clear k7_g5_0)
      (try clear g7_g5_0)
      (try clear k7_g5_1)
      (try clear g7_g5_1)
      (try clear q7_b2)
      (try clear x7_b2)
      (try clear y7_b2)
      (try clear q7_b3)
      (try clear x7_b3)
      (try clear y7_b3)
      (try clear q7_g5)
      (try clear x7_g5)
      (try clear y7_g5)
      rintro w8 ⟨k8_b2_0, g8_b2_0, k8_b2_1, g8_b2_1, k8_b3_0, g8_b3_0, k8_b3_1, g8_b3_1, k8_g5_0, g8_g5_0, k8_g5_1, g8_g5_1, B8, z8⟩ gg
      simp only [List.take_succ_cons, List.take_zero, List.drop_succ_cons, List.drop_zero, List.cons_append, List.nil_append, List.append_nil]
      refine obe_val (by rfl) ?_ ?_
      · clear k8_b2_0 g8_b2_0 k8_b2_1 g8_b2_1 k8_b3_0 g8_b3_0 k8_b3_1 g8_b3_1 k8_g5_0 g8_g5_0 k8_g5_1 g8_g5_1 B8 z8; intro f hf; have u6 : f 6 = (.int .i64 r) := (by rw [← hf]; rfl); clear hf; rintro w' ⟨h0, h1, h2, h3, h4, h5, h6, h7, h8, h9, h10, h11⟩; go_simp; try exact IntWalk.i64_in _ (by omega)
      refine obe_val (by rfl) ?_ ?_
      · clear k8_b2_0 g8_b2_0 k8_b2_1 g8_b2_1 k8_b3_0 g8_b3_0 k8_b3_1 g8_b3_1 k8_g5_0 g8_g5_0 k8_g5_1 g8_g5_1 B8 z8; intro f hf; have u80 : f 80 = (.int .i64 r) := (by rw [← hf]; rfl); clear hf; rintro w' ⟨h0, h1, h2, h3, h4, h5, h6, h7, h8, h9, h10, h11⟩; go_simp; try exact IntWalk.i64_in _ (by omega)
      refine obe_val (by rfl) ?_ ?_
      · clear k8_b2_0 g8_b2_0 k8_b2_1 g8_b2_1 k8_b3_0 g8_b3_0 k8_b3_1 g8_b3_1 k8_g5_0 g8_g5_0 k8_g5_1 g8_g5_1 B8 z8; intro f hf; have u81 : f 81 = (.bool true) := (by rw [← hf]; rfl); clear hf; rintro w' ⟨h0, h1, h2, h3, h4, h5, h6, h7, h8, h9, h10, h11⟩; go_simp; try exact IntWalk.i64_in _ (by omega)
      refine obe_val (by rfl) ?_ ?_
      · clear k8_b2_0 g8_b2_0 k8_b2_1 g8_b2_1 k8_b3_0 g8_b3_0 k8_b3_1 g8_b3_1 k8_g5_0 g8_g5_0 k8_g5_1 g8_g5_1 B8 z8; intro f hf; have u6 : f 6 = (.int .i64 r) := (by rw [← hf]; rfl); clear hf; rintro w' ⟨h0, h1, h2, h3, h4, h5, h6, h7, h8, h9, h10, h11⟩; go_simp; try exact IntWalk.i64_in _ (by omega)
      refine obe_val (by rfl) ?_ ?_
      · clear k8_b2_0 g8_b2_0 k8_b2_1 g8_b2_1 k8_b3_0 g8_b3_0 k8_b3_1 g8_b3_1 k8_g5_0 g8_g5_0 k8_g5_1 g8_g5_1 B8 z8; intro f hf; have u83 : f 83 = (.int .i64 r) := (by rw [← hf]; rfl); clear hf; rintro w' ⟨h0, h1, h2, h3, h4, h5, h6, h7, h8, h9, h10, h11⟩; go_simp; try exact IntWalk.i64_in _ (by omega)
      refine obe_val (by rfl) ?_ ?_
      · clear k8_b2_0 g8_b2_0 k8_b2_1 g8_b2_1 k8_b3_0 g8_b3_0 k8_b3_1 g8_b3_1 k8_g5_0 g8_g5_0 k8_g5_1 g8_g5_1 B8 z8; intro f hf; have u82 : f 82 = (.bool true) := (by rw [← hf]; rfl); have u84 : f 84 = (.bool true) := (by rw [← hf]; rfl); clear hf; rintro w' ⟨h0, h1, h2, h3, h4, h5, h6, h7, h8, h9, h10, h11⟩; go_simp; try exact IntWalk.i64_in _ (by omega)
      refine obe_val (by rfl) ?_ ?_
      · clear k8_b2_0 g8_b2_0 k8_b2_1 g8_b2_1 k8_b3_0 g8_b3_0 k8_b3_1 g8_b3_1 k8_g5_0 g8_g5_0 k8_g5_1 g8_g5_1 B8 z8; intro f hf; have u85 : f 85 = (.bool true) := (by rw [← hf]; rfl); clear hf; rintro w' ⟨h0, h1, h2, h3, h4, h5, h6, h7, h8, h9, h10, h11⟩; go_simp; try exact IntWalk.i64_in _ (by omega)
      refine obe_val (by rfl) ?_ ?_
      · clear k8_b2_0 g8_b2_0 k8_b2_1 g8_b2_1 k8_b3_0 g8_b3_0 k8_b3_1 g8_b3_1 k8_g5_0 g8_g5_0 k8_g5_1 g8_g5_1 B8 z8; intro f hf; have u6 : f 6 = (.int .i64 r) := (by rw [← hf]; rfl); clear hf; rintro w' ⟨h0, h1, h2, h3, h4, h5, h6, h7, h8, h9, h10, h11⟩; go_simp; try exact IntWalk.i64_in _ (by omega)
      refine obe_val (by rfl) ?_ ?_
      · clear k8_b2_0 g8_b2_0 k8_b2_1 g8_b2_1 k8_b3_0 g8_b3_0 k8_b3_1 g8_b3_1 k8_g5_0 g8_g5_0 k8_g5_1 g8_g5_1 B8 z8; intro f hf; have u6 : f 6 = (.int .i64 r) := (by rw [← hf]; rfl); clear hf; rintro w' ⟨h0, h1, h2, h3, h4, h5, h6, h7, h8, h9, h10, h11⟩; go_simp; try exact IntWalk.i64_in _ (by omega)
      refine obe_val (by rfl) ?_ ?_
      · clear k8_b2_0 g8_b2_0 k8_b2_1 g8_b2_1 k8_b3_0 g8_b3_0 k8_b3_1 g8_b3_1 k8_g5_0 g8_g5_0 k8_g5_1 g8_g5_1 B8 z8; intro f hf; have u87 : f 87 = (.int .i64 r) := (by rw [← hf]; rfl); have u88 : f 88 = (.int .i64 r) := (by rw [← hf]; rfl); clear hf; rintro w' ⟨h0, h1, h2, h3, h4, h5, h6, h7, h8, h9, h10, h11⟩; go_simp; try exact IntWalk.i64_in _ (by omega)
      refine obe_val (by rfl) ?_ ?_
      · clear k8_b2_0 g8_b2_0 k8_b2_1 g8_b2_1 k8_b3_0 g8_b3_0 k8_b3_1 g8_b3_1 k8_g5_0 g8_g5_0 k8_g5_1 g8_g5_1 B8 z8; intro f hf; have u7 : f 7 = (.int .i64 (65536 * G)) := (by rw [← hf]; rfl); clear hf; rintro w' ⟨h0, h1, h2, h3, h4, h5, h6, h7, h8, h9, h10, h11⟩; go_simp; try exact IntWalk.i64_in _ (by omega)
      refine obe_val (by rfl) ?_ ?_
      · clear k8_b2_0 g8_b2_0 k8_b2_1 g8_b2_1 k8_b3_0 g8_b3_0 k8_b3_1 g8_b3_1 k8_g5_0 g8_g5_0 k8_g5_1 g8_g5_1 B8 z8; intro f hf; have u89 : f 89 = (.int .i64 (r * r)) := (by rw [← hf]; rfl); have u90 : f 90 = (.int .i64 (65536 * G)) := (by rw [← hf]; rfl); clear hf; rintro w' ⟨h0, h1, h2, h3, h4, h5, h6, h7, h8, h9, h10, h11⟩; go_simp; try exact IntWalk.i64_in _ (by omega)
      refine obe_val (by rfl) ?_ ?_
      · clear k8_b2_0 g8_b2_0 k8_b2_1 g8_b2_1 k8_b3_0 g8_b3_0 k8_b3_1 g8_b3_1 k8_g5_0 g8_g5_0 k8_g5_1 g8_g5_1 B8 z8; intro f hf; have u86 : f 86 = (.bool true) := (by rw [← hf]; rfl); have u91 : f 91 = (.bool true) := (by rw [← hf]; rfl); clear hf; rintro w' ⟨h0, h1, h2, h3, h4, h5, h6, h7, h8, h9, h10, h11⟩; go_simp; try exact IntWalk.i64_in _ (by omega)
      refine obe_val (by rfl) ?_ ?_
      · clear k8_b2_0 g8_b2_0 k8_b2_1 g8_b2_1 k8_b3_0 g8_b3_0 k8_b3_1 g8_b3_1 k8_g5_0 g8_g5_0 k8_g5_1 g8_g5_1 B8 z8; intro f hf; have u92 : f 92 = (.bool true) := (by rw [← hf]; rfl); clear hf; rintro w' ⟨h0, h1, h2, h3, h4, h5, h6, h7, h8, h9, h10, h11⟩; go_simp; try exact IntWalk.i64_in _ (by omega)
      refine obe_val (by rfl) ?_ ?_
      · clear k8_b2_0 g8_b2_0 k8_b2_1 g8_b2_1 k8_b3_0 g8_b3_0 k8_b3_1 g8_b3_1 k8_g5_0 g8_g5_0 k8_g5_1 g8_g5_1 B8 z8; intro f hf; have u6 : f 6 = (.int .i64 r) := (by rw [← hf]; rfl); clear hf; rintro w' ⟨h0, h1, h2, h3, h4, h5, h6, h7, h8, h9, h10, h11⟩; go_simp; try exact IntWalk.i64_in _ (by omega)
      refine obe_val (by rfl) ?_ ?_
      · clear k8_b2_0 g8_b2_0 k8_b2_1 g8_b2_1 k8_b3_0 g8_b3_0 k8_b3_1 g8_b3_1 k8_g5_0 g8_g5_0 k8_g5_1 g8_g5_1 B8 z8; intro f hf; have u94 : f 94 = (.int .i64 r) := (by rw [← hf]; rfl); clear hf; rintro w' ⟨h0, h1, h2, h3, h4, h5, h6, h7, h8, h9, h10, h11⟩; go_simp; try exact IntWalk.i64_in _ (by omega)
      refine obe_val (by rfl) ?_ ?_
      · clear k8_b2_0 g8_b2_0 k8_b2_1 g8_b2_1 k8_b3_0 g8_b3_0 k8_b3_1 g8_b3_1 k8_g5_0 g8_g5_0 k8_g5_1 g8_g5_1 B8 z8; intro f hf; have u6 : f 6 = (.int .i64 r) := (by rw [← hf]; rfl); clear hf; rintro w' ⟨h0, h1, h2, h3, h4, h5, h6, h7, h8, h9, h10, h11⟩; go_simp; try exact IntWalk.i64_in _ (by omega)
      refine obe_val (by rfl) ?_ ?_
      · clear k8_b2_0 g8_b2_0 k8_b2_1 g8_b2_1 k8_b3_0 g8_b3_0 k8_b3_1 g8_b3_1 k8_g5_0 g8_g5_0 k8_g5_1 g8_g5_1 B8 z8; intro f hf; have u96 : f 96 = (.int .i64 r) := (by rw [← hf]; rfl); clear hf; rintro w' ⟨h0, h1, h2, h3, h4, h5, h6, h7, h8, h9, h10, h11⟩; go_simp; try exact IntWalk.i64_in _ (by omega)
      refine obe_val (by rfl) ?_ ?_
      · clear k8_b2_0 g8_b2_0 k8_b2_1 g8_b2_1 k8_b3_0 g8_b3_0 k8_b3_1 g8_b3_1 k8_g5_0 g8_g5_0 k8_g5_1 g8_g5_1 B8 z8; intro f hf; have u95 : f 95 = (.int .i64 (r + 1)) := (by rw [← hf]; rfl); have u97 : f 97 = (.int .i64 (r + 1)) := (by rw [← hf]; rfl); clear hf; rintro w' ⟨h0, h1, h2, h3, h4, h5, h6, h7, h8, h9, h10, h11⟩; go_simp; try exact IntWalk.i64_in _ (by omega)
      refine obe_val (by rfl) ?_ ?_
      · clear k8_b2_0 g8_b2_0 k8_b2_1 g8_b2_1 k8_b3_0 g8_b3_0 k8_b3_1 g8_b3_1 k8_g5_0 g8_g5_0 k8_g5_1 g8_g5_1 B8 z8; intro f hf; have u7 : f 7 = (.int .i64 (65536 * G)) := (by rw [← hf]; rfl); clear hf; rintro w' ⟨h0, h1, h2, h3, h4, h5, h6, h7, h8, h9, h10, h11⟩; go_simp; try exact IntWalk.i64_in _ (by omega)
      refine obe_val (by rfl) ?_ ?_
      · clear k8_b2_0 g8_b2_0 k8_b2_1 g8_b2_1 k8_b3_0 g8_b3_0 k8_b3_1 g8_b3_1 k8_g5_0 g8_g5_0 k8_g5_1 g8_g5_1 B8 z8; intro f hf; have u98 : f 98 = (.int .i64 ((r + 1) * (r + 1))) := (by rw [← hf]; rfl); have u99 : f 99 = (.int .i64 (65536 * G)) := (by rw [← hf]; rfl); clear hf; rintro w' ⟨h0, h1, h2, h3, h4, h5, h6, h7, h8, h9, h10, h11⟩; go_simp; try exact IntWalk.i64_in _ (by omega)
      refine obe_val (by rfl) ?_ ?_
      · clear k8_b2_0 g8_b2_0 k8_b2_1 g8_b2_1 k8_b3_0 g8_b3_0 k8_b3_1 g8_b3_1 k8_g5_0 g8_g5_0 k8_g5_1 g8_g5_1 B8 z8; intro f hf; have u93 : f 93 = (.bool true) := (by rw [← hf]; rfl); have u100 : f 100 = (.bool true) := (by rw [← hf]; rfl); clear hf; rintro w' ⟨h0, h1, h2, h3, h4, h5, h6, h7, h8, h9, h10, h11⟩; go_simp; try exact IntWalk.i64_in _ (by omega)
      refine obe_val (by rfl) ?_ ?_
      · clear k8_b2_0 g8_b2_0 k8_b2_1 g8_b2_1 k8_b3_0 g8_b3_0 k8_b3_1 g8_b3_1 k8_g5_0 g8_g5_0 k8_g5_1 g8_g5_1 B8 z8; intro f hf; have u101 : f 101 = (.bool true) := (by rw [← hf]; rfl); clear hf; rintro w' ⟨h0, h1, h2, h3, h4, h5, h6, h7, h8, h9, h10, h11⟩; go_simp; try exact IntWalk.i64_in _ (by omega)
      refine obe_val (by rfl) ?_ ?_
      · clear k8_b2_0 g8_b2_0 k8_b2_1 g8_b2_1 k8_b3_0 g8_b3_0 k8_b3_1 g8_b3_1 k8_g5_0 g8_g5_0 k8_g5_1 g8_g5_1 B8 z8; intro f hf; have u5 : f 5 = (.pointer (some ⟨w3.heap.size, 0, none⟩)) := (by rw [← hf]; rfl); clear hf; rintro w' ⟨h0, h1, h2, h3, h4, h5, h6, h7, h8, h9, h10, h11⟩; go_simp; try exact IntWalk.i64_in _ (by omega)
      refine obe_call (by rfl) ?_ ?_ ?_
      · clear k8_b2_0 g8_b2_0 k8_b2_1 g8_b2_1 k8_b3_0 g8_b3_0 k8_b3_1 g8_b3_1 k8_g5_0 g8_g5_0 k8_g5_1 g8_g5_1 B8 z8; intro f hf; have u103 : f 103 = (.agg #[.int .i64 (-y), .int .i64 x]) := (by rw [← hf]; rfl); clear hf; intro w' _; simp only [execOp, resolve, invoke, rhoF_tmp, rhoF_func, rhoF_const, u103, List.map_toArray, List.map_cons, List.map_nil]; go_simp
      · clear k8_b2_0 g8_b2_0 k8_b2_1 g8_b2_1 k8_b3_0 g8_b3_0 k8_b3_1 g8_b3_1 k8_g5_0 g8_g5_0 k8_g5_1 g8_g5_1 B8 z8; rintro w' ⟨h0, h1, h2, h3, h4, h5, h6, h7, h8, h9, h10, h11⟩; exact n2 _
      refine obe_val (by rfl) ?_ ?_
      · clear k8_b2_0 g8_b2_0 k8_b2_1 g8_b2_1 k8_b3_0 g8_b3_0 k8_b3_1 g8_b3_1 k8_g5_0 g8_g5_0 k8_g5_1 g8_g5_1 B8 z8; intro f hf; have u6 : f 6 = (.int .i64 r) := (by rw [← hf]; rfl); clear hf; rintro w' ⟨h0, h1, h2, h3, h4, h5, h6, h7, h8, h9, h10, h11⟩; go_simp; try exact IntWalk.i64_in _ (by omega)
      refine obe_val (by rfl) ?_ ?_
      · clear k8_b2_0 g8_b2_0 k8_b2_1 g8_b2_1 k8_b3_0 g8_b3_0 k8_b3_1 g8_b3_1 k8_g5_0 g8_g5_0 k8_g5_1 g8_g5_1 B8 z8; intro f hf; have u104 : f 104 = (.int .i64 r) := (by rw [← hf]; rfl); have u105 : f 105 = (.int .i64 r) := (by rw [← hf]; rfl); clear hf; rintro w' ⟨h0, h1, h2, h3, h4, h5, h6, h7, h8, h9, h10, h11⟩; go_simp; try exact IntWalk.i64_in _ (by omega)
      refine obe_val (by rfl) ?_ ?_
      · clear k8_b2_0 g8_b2_0 k8_b2_1 g8_b2_1 k8_b3_0 g8_b3_0 k8_b3_1 g8_b3_1 k8_g5_0 g8_g5_0 k8_g5_1 g8_g5_1 B8 z8; intro f hf; have u102 : f 102 = (.bool true) := (by rw [← hf]; rfl); have u106 : f 106 = (.bool true) := (by rw [← hf]; rfl); clear hf; rintro w' ⟨h0, h1, h2, h3, h4, h5, h6, h7, h8, h9, h10, h11⟩; go_simp; try exact IntWalk.i64_in _ (by omega)
      refine obe_val (by rfl) ?_ ?_
      · clear k8_b2_0 g8_b2_0 k8_b2_1 g8_b2_1 k8_b3_0 g8_b3_0 k8_b3_1 g8_b3_1 k8_g5_0 g8_g5_0 k8_g5_1 g8_g5_1 B8 z8; intro f hf; have u107 : f 107 = (.bool true) := (by rw [← hf]; rfl); clear hf; rintro w' ⟨h0, h1, h2, h3, h4, h5, h6, h7, h8, h9, h10, h11⟩; go_simp; try exact IntWalk.i64_in _ (by omega)
      refine obe_val (by rfl) ?_ ?_
      · clear k8_b2_0 g8_b2_0 k8_b2_1 g8_b2_1 k8_b3_0 g8_b3_0 k8_b3_1 g8_b3_1 k8_g5_0 g8_g5_0 k8_g5_1 g8_g5_1 B8 z8; intro f hf; have u2 : f 2 = (.pointer (some ⟨w.heap.size, 0, none⟩)) := (by rw [← hf]; rfl); clear hf; rintro w' ⟨h0, h1, h2, h3, h4, h5, h6, h7, h8, h9, h10, h11⟩; go_simp; try exact IntWalk.i64_in _ (by omega)
      refine obe_val (by rfl) ?_ ?_
      · clear k8_b2_0 g8_b2_0 k8_b2_1 g8_b2_1 k8_b3_0 g8_b3_0 k8_b3_1 g8_b3_1 k8_g5_0 g8_g5_0 k8_g5_1 g8_g5_1 B8 z8; intro f hf; have u3 : f 3 = (.pointer (some ⟨w.heap.size + 1, 0, none⟩)) := (by rw [← hf]; rfl); clear hf; rintro w' ⟨h0, h1, h2, h3, h4, h5, h6, h7, h8, h9, h10, h11⟩; go_simp; try exact IntWalk.i64_in _ (by omega)
      refine obe_call (by rfl) ?_ ?_ ?_
      · clear k8_b2_0 g8_b2_0 k8_b2_1 g8_b2_1 k8_b3_0 g8_b3_0 k8_b3_1 g8_b3_1 k8_g5_0 g8_g5_0 k8_g5_1 g8_g5_1 B8 z8; intro f hf; have u109 : f 109 = (.agg #[.int .i64 x, .int .i64 y]) := (by rw [← hf]; rfl); have u110 : f 110 = (.agg #[.int .i64 u, .int .i64 v]) := (by rw [← hf]; rfl); clear hf; intro w' _; simp only [execOp, resolve, invoke, rhoF_tmp, rhoF_func, rhoF_const, u109, u110, List.map_toArray, List.map_cons, List.map_nil]; go_simp
      · clear k8_b2_0 g8_b2_0 k8_b2_1 g8_b2_1 k8_b3_0 g8_b3_0 k8_b3_1 g8_b3_1 k8_g5_0 g8_g5_0 k8_g5_1 g8_g5_1 B8 z8; rintro w' ⟨h0, h1, h2, h3, h4, h5, h6, h7, h8, h9, h10, h11⟩; exact l1 _
      refine obe_val (by rfl) ?_ ?_
      · clear k8_b2_0 g8_b2_0 k8_b2_1 g8_b2_1 k8_b3_0 g8_b3_0 k8_b3_1 g8_b3_1 k8_g5_0 g8_g5_0 k8_g5_1 g8_g5_1 B8 z8; intro f hf; have u111 : f 111 = (.bool true) := (by rw [← hf]; rfl); clear hf; rintro w' ⟨h0, h1, h2, h3, h4, h5, h6, h7, h8, h9, h10, h11⟩; go_simp; try exact IntWalk.i64_in _ (by omega)
      refine obe_skip (by rfl) ?_
      refine obe_skip (by rfl) ?_
      refine obe_skip (by rfl) ?_
      refine obe_val (by rfl) ?_ ?_
      · clear k8_b2_0 g8_b2_0 k8_b2_1 g8_b2_1 k8_b3_0 g8_b3_0 k8_b3_1 g8_b3_1 k8_g5_0 g8_g5_0 k8_g5_1 g8_g5_1 B8 z8; intro f hf; have u112 : f 112 = (.bool true) := (by rw [← hf]; rfl); clear hf; rintro w' ⟨h0, h1, h2, h3, h4, h5, h6, h7, h8, h9, h10, h11⟩; go_simp; try exact IntWalk.i64_in _ (by omega)
      refine obe_val (by rfl) ?_ ?_
      · clear k8_b2_0 g8_b2_0 k8_b2_1 g8_b2_1 k8_b3_0 g8_b3_0 k8_b3_1 g8_b3_1 k8_g5_0 g8_g5_0 k8_g5_1 g8_g5_1 B8 z8; intro f hf; have u2 : f 2 = (.pointer (some ⟨w.heap.size, 0, none⟩)) := (by rw [← hf]; rfl); clear hf; rintro w' ⟨h0, h1, h2, h3, h4, h5, h6, h7, h8, h9, h10, h11⟩; go_simp; try exact IntWalk.i64_in _ (by omega)
      refine obe_val (by rfl) ?_ ?_
      · clear k8_b2_0 g8_b2_0 k8_b2_1 g8_b2_1 k8_b3_0 g8_b3_0 k8_b3_1 g8_b3_1 k8_g5_0 g8_g5_0 k8_g5_1 g8_g5_1 B8 z8; intro f hf; have u3 : f 3 = (.pointer (some ⟨w.heap.size + 1, 0, none⟩)) := (by rw [← hf]; rfl); clear hf; rintro w' ⟨h0, h1, h2, h3, h4, h5, h6, h7, h8, h9, h10, h11⟩; go_simp; try exact IntWalk.i64_in _ (by omega)
      refine obe_val (by rfl) ?_ ?_
      · clear k8_b2_0 g8_b2_0 k8_b2_1 g8_b2_1 k8_b3_0 g8_b3_0 k8_b3_1 g8_b3_1 k8_g5_0 g8_g5_0 k8_g5_1 g8_g5_1 B8 z8; intro f hf; have u117 : f 117 = (.agg #[.int .i64 x, .int .i64 y]) := (by rw [← hf]; rfl); have u118 : f 118 = (.agg #[.int .i64 u, .int .i64 v]) := (by rw [← hf]; rfl); clear hf; rintro w' ⟨h0, h1, h2, h3, h4, h5, h6, h7, h8, h9, h10, h11⟩; go_simp; try exact IntWalk.i64_in _ (by omega)
      refine obe_val (by rfl) ?_ ?_
      · clear k8_b2_0 g8_b2_0 k8_b2_1 g8_b2_1 k8_b3_0 g8_b3_0 k8_b3_1 g8_b3_1 k8_g5_0 g8_g5_0 k8_g5_1 g8_g5_1 B8 z8; intro f hf; have u116 : f 116 = (.bool true) := (by rw [← hf]; rfl); have u119 : f 119 = (.bool true) := (by rw [← hf]; rfl); clear hf; rintro w' ⟨h0, h1, h2, h3, h4, h5, h6, h7, h8, h9, h10, h11⟩; go_simp; try exact IntWalk.i64_in _ (by omega)
      refine obe_val (by rfl) ?_ ?_
      · clear k8_b2_0 g8_b2_0 k8_b2_1 g8_b2_1 k8_b3_0 g8_b3_0 k8_b3_1 g8_b3_1 k8_g5_0 g8_g5_0 k8_g5_1 g8_g5_1 B8 z8; intro f hf; have u108 : f 108 = (.bool true) := (by rw [← hf]; rfl); have u120 : f 120 = (.bool true) := (by rw [← hf]; rfl); clear hf; rintro w' ⟨h0, h1, h2, h3, h4, h5, h6, h7, h8, h9, h10, h11⟩; go_simp; try exact IntWalk.i64_in _ (by omega)
      refine obe_val (by rfl) ?_ ?_
      · clear k8_b2_0 g8_b2_0 k8_b2_1 g8_b2_1 k8_b3_0 g8_b3_0 k8_b3_1 g8_b3_1 k8_g5_0 g8_g5_0 k8_g5_1 g8_g5_1 B8 z8; intro f hf; have u121 : f 121 = (.bool true) := (by rw [← hf]; rfl); clear hf; rintro w' ⟨h0, h1, h2, h3, h4, h5, h6, h7, h8, h9, h10, h11⟩; go_simp; try exact IntWalk.i64_in _ (by omega)
      refine obe_val (by rfl) ?_ ?_
      · clear k8_b2_0 g8_b2_0 k8_b2_1 g8_b2_1 k8_b3_0 g8_b3_0 k8_b3_1 g8_b3_1 k8_g5_0 g8_g5_0 k8_g5_1 g8_g5_1 B8 z8; intro f hf; have u2 : f 2 = (.pointer (some ⟨w.heap.size, 0, none⟩)) := (by rw [← hf]; rfl); clear hf; rintro w' ⟨h0, h1, h2, h3, h4, h5, h6, h7, h8, h9, h10, h11⟩; go_simp; try exact IntWalk.i64_in _ (by omega)
      refine obe_val (by rfl) ?_ ?_
      · clear k8_b2_0 g8_b2_0 k8_b2_1 g8_b2_1 k8_b3_0 g8_b3_0 k8_b3_1 g8_b3_1 k8_g5_0 g8_g5_0 k8_g5_1 g8_g5_1 B8 z8; intro f hf; have u3 : f 3 = (.pointer (some ⟨w.heap.size + 1, 0, none⟩)) := (by rw [← hf]; rfl); clear hf; rintro w' ⟨h0, h1, h2, h3, h4, h5, h6, h7, h8, h9, h10, h11⟩; go_simp; try exact IntWalk.i64_in _ (by omega)
      refine obe_call (by rfl) ?_ ?_ ?_
      · clear k8_b2_0 g8_b2_0 k8_b2_1 g8_b2_1 k8_b3_0 g8_b3_0 k8_b3_1 g8_b3_1 k8_g5_0 g8_g5_0 k8_g5_1 g8_g5_1 B8 z8; intro f hf; have u123 : f 123 = (.agg #[.int .i64 x, .int .i64 y]) := (by rw [← hf]; rfl); have u124 : f 124 = (.agg #[.int .i64 u, .int .i64 v]) := (by rw [← hf]; rfl); clear hf; intro w' _; simp only [execOp, resolve, invoke, rhoF_tmp, rhoF_func, rhoF_const, u123, u124, List.map_toArray, List.map_cons, List.map_nil]; go_simp
      · clear k8_b2_0 g8_b2_0 k8_b2_1 g8_b2_1 k8_b3_0 g8_b3_0 k8_b3_1 g8_b3_1 k8_g5_0 g8_g5_0 k8_g5_1 g8_g5_1 B8 z8; rintro w' ⟨h0, h1, h2, h3, h4, h5, h6, h7, h8, h9, h10, h11⟩; exact l1 _
      refine obe_val (by rfl) ?_ ?_
      · clear k8_b2_0 g8_b2_0 k8_b2_1 g8_b2_1 k8_b3_0 g8_b3_0 k8_b3_1 g8_b3_1 k8_g5_0 g8_g5_0 k8_g5_1 g8_g5_1 B8 z8; intro f hf; have u125 : f 125 = (.bool true) := (by rw [← hf]; rfl); clear hf; rintro w' ⟨h0, h1, h2, h3, h4, h5, h6, h7, h8, h9, h10, h11⟩; go_simp; try exact IntWalk.i64_in _ (by omega)
      refine obe_val (by rfl) ?_ ?_
      · clear k8_b2_0 g8_b2_0 k8_b2_1 g8_b2_1 k8_b3_0 g8_b3_0 k8_b3_1 g8_b3_1 k8_g5_0 g8_g5_0 k8_g5_1 g8_g5_1 B8 z8; intro f hf; have u3 : f 3 = (.pointer (some ⟨w.heap.size + 1, 0, none⟩)) := (by rw [← hf]; rfl); clear hf; rintro w' ⟨h0, h1, h2, h3, h4, h5, h6, h7, h8, h9, h10, h11⟩; go_simp; try exact IntWalk.i64_in _ (by omega)
      refine obe_val (by rfl) ?_ ?_
      · clear k8_b2_0 g8_b2_0 k8_b2_1 g8_b2_1 k8_b3_0 g8_b3_0 k8_b3_1 g8_b3_1 k8_g5_0 g8_g5_0 k8_g5_1 g8_g5_1 B8 z8; intro f hf; have u2 : f 2 = (.pointer (some ⟨w.heap.size, 0, none⟩)) := (by rw [← hf]; rfl); clear hf; rintro w' ⟨h0, h1, h2, h3, h4, h5, h6, h7, h8, h9, h10, h11⟩; go_simp; try exact IntWalk.i64_in _ (by omega)
      refine obe_call (by rfl) ?_ ?_ ?_
      · clear k8_b2_0 g8_b2_0 k8_b2_1 g8_b2_1 k8_b3_0 g8_b3_0 k8_b3_1 g8_b3_1 k8_g5_0 g8_g5_0 k8_g5_1 g8_g5_1 B8 z8; intro f hf; have u127 : f 127 = (.agg #[.int .i64 u, .int .i64 v]) := (by rw [← hf]; rfl); have u128 : f 128 = (.agg #[.int .i64 x, .int .i64 y]) := (by rw [← hf]; rfl); clear hf; intro w' _; simp only [execOp, resolve, invoke, rhoF_tmp, rhoF_func, rhoF_const, u127, u128, List.map_toArray, List.map_cons, List.map_nil]; go_simp
      · clear k8_b2_0 g8_b2_0 k8_b2_1 g8_b2_1 k8_b3_0 g8_b3_0 k8_b3_1 g8_b3_1 k8_g5_0 g8_g5_0 k8_g5_1 g8_g5_1 B8 z8; rintro w' ⟨h0, h1, h2, h3, h4, h5, h6, h7, h8, h9, h10, h11⟩; exact l2 _
      refine obe_val (by rfl) ?_ ?_
      · clear k8_b2_0 g8_b2_0 k8_b2_1 g8_b2_1 k8_b3_0 g8_b3_0 k8_b3_1 g8_b3_1 k8_g5_0 g8_g5_0 k8_g5_1 g8_g5_1 B8 z8; intro f hf; have u126 : f 126 = (.bool true) := (by rw [← hf]; rfl); have u129 : f 129 = (.bool false) := (by rw [← hf]; rfl); clear hf; rintro w' ⟨h0, h1, h2, h3, h4, h5, h6, h7, h8, h9, h10, h11⟩; go_simp; try exact IntWalk.i64_in _ (by omega)
      refine obe_val (by rfl) ?_ ?_
      · clear k8_b2_0 g8_b2_0 k8_b2_1 g8_b2_1 k8_b3_0 g8_b3_0 k8_b3_1 g8_b3_1 k8_g5_0 g8_g5_0 k8_g5_1 g8_g5_1 B8 z8; intro f hf; have u130 : f 130 = (.bool false) := (by rw [← hf]; rfl); clear hf; rintro w' ⟨h0, h1, h2, h3, h4, h5, h6, h7, h8, h9, h10, h11⟩; go_simp; try exact IntWalk.i64_in _ (by omega)
      refine obe_val (by rfl) ?_ ?_
      · clear k8_b2_0 g8_b2_0 k8_b2_1 g8_b2_1 k8_b3_0 g8_b3_0 k8_b3_1 g8_b3_1 k8_g5_0 g8_g5_0 k8_g5_1 g8_g5_1 B8 z8; intro f hf; have u122 : f 122 = (.bool true) := (by rw [← hf]; rfl); have u131 : f 131 = (.bool true) := (by rw [← hf]; rfl); clear hf; rintro w' ⟨h0, h1, h2, h3, h4, h5, h6, h7, h8, h9, h10, h11⟩; go_simp; try exact IntWalk.i64_in _ (by omega)
      refine obe_val (by rfl) ?_ ?_
      · clear k8_b2_0 g8_b2_0 k8_b2_1 g8_b2_1 k8_b3_0 g8_b3_0 k8_b3_1 g8_b3_1 k8_g5_0 g8_g5_0 k8_g5_1 g8_g5_1 B8 z8; intro f hf; have u132 : f 132 = (.bool true) := (by rw [← hf]; rfl); clear hf; rintro w' ⟨h0, h1, h2, h3, h4, h5, h6, h7, h8, h9, h10, h11⟩; go_simp; try exact IntWalk.i64_in _ (by omega)
      refine obe_call (by rfl) ?_ ?_ ?_
      · clear k8_b2_0 g8_b2_0 k8_b2_1 g8_b2_1 k8_b3_0 g8_b3_0 k8_b3_1 g8_b3_1 k8_g5_0 g8_g5_0 k8_g5_1 g8_g5_1 B8 z8; intro f hf; clear hf; intro w' _; simp only [execOp, resolve, invoke, rhoF_tmp, rhoF_func, rhoF_const, List.map_toArray, List.map_cons, List.map_nil]; go_simp
      · clear k8_b2_0 g8_b2_0 k8_b2_1 g8_b2_1 k8_b3_0 g8_b3_0 k8_b3_1 g8_b3_1 k8_g5_0 g8_g5_0 k8_g5_1 g8_g5_1 B8 z8; rintro w' ⟨h0, h1, h2, h3, h4, h5, h6, h7, h8, h9, h10, h11⟩; exact example_any _
      refine obe_val (by rfl) ?_ ?_
      · clear k8_b2_0 g8_b2_0 k8_b2_1 g8_b2_1 k8_b3_0 g8_b3_0 k8_b3_1 g8_b3_1 k8_g5_0 g8_g5_0 k8_g5_1 g8_g5_1 B8 z8; intro f hf; have u133 : f 133 = (.bool true) := (by rw [← hf]; rfl); have u134 : f 134 = (.bool true) := (by rw [← hf]; rfl); clear hf; rintro w' ⟨h0, h1, h2, h3, h4, h5, h6, h7, h8, h9, h10, h11⟩; go_simp; try exact IntWalk.i64_in _ (by omega)
      refine obe_val (by rfl) ?_ ?_
      · clear k8_b2_0 g8_b2_0 k8_b2_1 g8_b2_1 k8_b3_0 g8_b3_0 k8_b3_1 g8_b3_1 k8_g5_0 g8_g5_0 k8_g5_1 g8_g5_1 B8 z8; intro f hf; have u135 : f 135 = (.bool true) := (by rw [← hf]; rfl); clear hf; rintro w' ⟨h0, h1, h2, h3, h4, h5, h6, h7, h8, h9, h10, h11⟩; go_simp; try exact IntWalk.i64_in _ (by omega)
      refine obe_nil ?_
      rintro w9 ⟨h0, h1, h2, h3, h4, h5, h6, h7, h8, h9, h10, h11⟩ hb9 hF
      (try simp only [List.nil_append, List.append_nil, List.cons_append] at hF)
      simp only [puts, putD, Act.put, List.setIfInBounds_toArray, List.set_cons_zero, List.set_cons_succ]
      clear hF
      have k9_b2_0 := bcs hb9 k8_b2_0
      have g9_b2_0 := bfs hb9 k8_b2_0 g8_b2_0
      have k9_b2_1 := bcs hb9 k8_b2_1
      have g9_b2_1 := bfs hb9 k8_b2_1 g8_b2_1
      have k9_b3_0 := bcs hb9 k8_b3_0
      have g9_b3_0 := bfs hb9 k8_b3_0 g8_b3_0
      have k9_b3_1 := bcs hb9 k8_b3_1
      have g9_b3_1 := bfs hb9 k8_b3_1 g8_b3_1
      have k9_g5_0 := bcs hb9 k8_g5_0
      have g9_g5_0 := bfs hb9 k8_g5_0 g8_g5_0
      have k9_g5_1 := bcs hb9 k8_g5_1
      have g9_g5_1 := bfs hb9 k8_g5_1 g8_g5_1
      clear h0 h1 h2 h3 h4 h5 h6 h7 h8 h9 h10 h11
      have B9 := bel_step B8 hb9
      have z9 := Nat.le_trans z8 hb9.size
      clear hb9
      (try clear B8)
      (try clear z8)
      (try clear k8_b2_0)
      (try clear g8_b2_0)
      (try clear k8_b2_1)
      (try clear g8_b2_1)
      (try clear k8_b3_0)
      (try clear g8_b3_0)
      (try clear k8_b3_1)
      (try clear g8_b3_1)
      (try clear k8_g5_0)
      (try clear g8_g5_0)
      (try clear k8_g5_1)
      (try clear g8_g5_1)
      (try clear q8_b2)
      (try clear x8_b2)
      (try clear y8_b2)
      (try clear q8_b3)
      (try clear x8_b3)
      (try clear y8_b3)
      (try clear q8_g5)
      (try clear x8_g5)
      (try clear y8_g5)
      have q9_b2 : w.heap.size < w9.heap.size := qlt k9_b2_0
      have x9_b2 : ¬ w.heap.size = w9.heap.size := qne k9_b2_0
      have y9_b2 : ¬ w9.heap.size = w.heap.size := fun h => qne k9_b2_0 h.symm
      have q9_b3 : w.heap.size + 1 < w9.heap.size := qlt k9_b3_0
      have x9_b3 : ¬ w.heap.size + 1 = w9.heap.size := qne k9_b3_0
      have y9_b3 : ¬ w9.heap.size = w.heap.size + 1 := fun h => qne k9_b3_0 h.symm
      have q9_g5 : w3.heap.size < w9.heap.size := qlt k9_g5_0
      have x9_g5 : ¬ w3.heap.size = w9.heap.size := qne k9_g5_0
      have y9_g5 : ¬ w9.heap.size = w3.heap.size := fun h => qne k9_g5_0 h.symm
      unfold wpList
      go_wp2
      go_ret
      refine ⟨rfl, ?_⟩
      repeat (first | with_reducible exact Below.refl _ _ | with_reducible exact B9 | with_reducible apply below_drewN | with_reducible apply Below.drew | (with_reducible refine Below.alloc ?_ (by first | (simp; done) | (simp; omega) | omega) _) | (with_reducible refine Below.setCell ?_ (by first | (simp; done) | (simp; omega) | omega) _))
    · rw [j1] at l1
      rw [j2] at l2
      rw [j3] at nq
      clear j1 j2 j3
      refine wp_region_env (fun w' => w'.cell? ⟨w.heap.size, 0, none⟩ = some (.int .i64 x) ∧ w'.frozen? ⟨w.heap.size, 0, none⟩ = false ∧ w'.cell? ⟨w.heap.size, 1, none⟩ = some (.int .i64 y) ∧ w'.frozen? ⟨w.heap.size, 1, none⟩ = false ∧ w'.cell? ⟨w.heap.size + 1, 0, none⟩ = some (.int .i64 u) ∧ w'.frozen? ⟨w.heap.size + 1, 0, none⟩ = false ∧ w'.cell? ⟨w.heap.size + 1, 1, none⟩ = some (.int .i64 v) ∧ w'.frozen? ⟨w.heap.size + 1, 1, none⟩ = false ∧ w'.cell? ⟨w3.heap.size, 0, none⟩ = some (.int .i64 (-y)) ∧ w'.frozen? ⟨w3.heap.size, 0, none⟩ = false ∧ w'.cell? ⟨w3.heap.size, 1, none⟩ = some (.int .i64 x) ∧ w'.frozen? ⟨w3.heap.size, 1, none⟩ = false) (fun W => W.cell? ⟨w.heap.size, 0, none⟩ = some (.int .i64 x) ∧ W.frozen? ⟨w.heap.size, 0, none⟩ = false ∧ W.cell? ⟨w.heap.size, 1, none⟩ = some (.int .i64 y) ∧ W.frozen? ⟨w.heap.size, 1, none⟩ = false ∧ W.cell? ⟨w.heap.size + 1, 0, none⟩ = some (.int .i64 u) ∧ W.frozen? ⟨w.heap.size + 1, 0, none⟩ = false ∧ W.cell? ⟨w.heap.size + 1, 1, none⟩ = some (.int .i64 v) ∧ W.frozen? ⟨w.heap.size + 1, 1, none⟩ = false ∧ W.cell? ⟨w3.heap.size, 0, none⟩ = some (.int .i64 (-y)) ∧ W.frozen? ⟨w3.heap.size, 0, none⟩ = false ∧ W.cell? ⟨w3.heap.size, 1, none⟩ = some (.int .i64 x) ∧ W.frozen? ⟨w3.heap.size, 1, none⟩ = false ∧ Below w.heap.size w W ∧ w.heap.size + 1 + 1 ≤ W.heap.size) 57 136 [.val (.int .i64 r), .val (.bool true), .val (.bool true), .val (.int .i64 r), .val (.bool true), .val (.bool true), .val (.bool true), .val (.int .i64 r), .val (.int .i64 r), .val (.int .i64 (r * r)), .val (.int .i64 (65536 * G)), .val (.bool true), .val (.bool true), .val (.bool true), .val (.int .i64 r), .val (.int .i64 (r + 1)), .val (.int .i64 r), .val (.int .i64 (r + 1)), .val (.int .i64 ((r + 1) * (r + 1))), .val (.int .i64 (65536 * G)), .val (.bool true), .val (.bool true), .val (.bool true), .val (.agg #[.int .i64 (-y), .int .i64 x]), .call 21 #[.agg #[.int .i64 (-y), .int .i64 x]] (.int .i64 r), .val (.int .i64 r), .val (.bool true), .val (.bool true), .val (.bool true), .val (.agg #[.int .i64 x, .int .i64 y]), .val (.agg #[.int .i64 u, .int .i64 v]), .call 23 #[.agg #[.int .i64 x, .int .i64 y], .agg #[.int .i64 u, .int .i64 v]] (.bool false), .val (.bool false), .val (.agg #[.int .i64 u, .int .i64 v]), .val (.agg #[.int .i64 x, .int .i64 y]), .call 23 #[.agg #[.int .i64 u, .int .i64 v], .agg #[.int .i64 x, .int .i64 y]] (.bool true), .val (.bool true), .val (.agg #[.int .i64 x, .int .i64 y]), .val (.agg #[.int .i64 u, .int .i64 v]), .val (.bool true), .val (.bool true), .val (.bool true), .val (.bool true), .val (.agg #[.int .i64 x, .int .i64 y]), .val (.agg #[.int .i64 u, .int .i64 v]), .call 23 #[.agg #[.int .i64 x, .int .i64 y], .agg #[.int .i64 u, .int .i64 v]] (.bool false), .val (.bool false), .skip, .skip, .skip, .val (.bool false), .val (.bool true), .val (.bool true), .val (.bool true), .call 25 #[] (.bool true), .val (.bool true), .val (.bool true)] (by kernel_rfl) (by kernel_rfl) rfl (by kernel_rfl) (by rintro w1 w2 ⟨h0, h1, h2, h3, h4, h5, h6, h7, h8, h9, h10, h11⟩ hb; exact ⟨bcs hb h0, bfs hb h0 h1, bcs hb h2, bfs hb h2 h3, bcs hb h4, bfs hb h4 h5, bcs hb h6, bfs hb h6 h7, bcs hb h8, bfs hb h8 h9, bcs hb h10, bfs hb h10 h11⟩) ⟨by first | with_reducible assumption | go_simp, by first | with_reducible assumption | go_simp, by first | with_reducible assumption | go_simp, by first | with_reducible assumption | go_simp, by first | with_reducible assumption | go_simp, by first | with_reducible assumption | go_simp, by first | with_reducible assumption | go_simp, by first | with_reducible assumption | go_simp, by first | with_reducible assumption | go_simp, by first | with_reducible assumption | go_simp, by first | with_reducible assumption | go_simp, by first | with_reducible assumption | go_simp, by repeat (first | with_reducible exact Below.refl _ _ | with_reducible exact B7 | with_reducible apply below_drewN | with_reducible apply Below.drew | (with_reducible refine Below.alloc ?_ (by first | (simp; done) | (simp; omega) | omega) _) | (with_reducible refine Below.setCell ?_ (by first | (simp; done) | (simp; omega) | omega) _)), by first | with_reducible assumption | (simp; done) | (simp; omega)⟩ ?_ ?_
      · rintro W ⟨k8_b2_0, g8_b2_0, k8_b2_1, g8_b2_1, k8_b3_0, g8_b3_0, k8_b3_1, g8_b3_1, k8_g5_0, g8_g5_0, k8_g5_1, g8_g5_1, B8, z8⟩; exact ⟨k8_b2_0, g8_b2_0, k8_b2_1, g8_b2_1, k8_b3_0, g8_b3_0, k8_b3_1, g8_b3_1, k8_g5_0, g8_g5_0, k8_g5_1, g8_g5_1⟩
      (try clear B7)
      (try clear z7)
      (try clear k7_b2_0)
      (try clear g7_b2_0)
      (try clear k7_b2_1)
      (try clear g7_b2_1)
      (try clear k7_b3_0)
      (try clear g7_b3_0)
      (try clear k7_b3_1)
      (try clear g7_b3_1)
      (try clear k7_g5_0)
      (try clear g7_g5_0)
      (try clear k7_g5_1)
      (try clear g7_g5_1)
      (try clear q7_b2)
      (try clear x7_b2)
      (try clear y7_b2)
      (try clear q7_b3)
      (try clear x7_b3)
      (try clear y7_b3)
      (try clear q7_g5)
      (try clear x7_g5)
      (try clear y7_g5)
      rintro w8 ⟨k8_b2_0, g8_b2_0, k8_b2_1, g8_b2_1, k8_b3_0, g8_b3_0, k8_b3_1, g8_b3_1, k8_g5_0, g8_g5_0, k8_g5_1, g8_g5_1, B8, z8⟩ gg
      simp only [List.take_succ_cons, List.take_zero, List.drop_succ_cons, List.drop_zero, List.cons_append, List.nil_append, List.append_nil]
      refine obe_val (by rfl) ?_ ?_
      · clear k8_b2_0 g8_b2_0 k8_b2_1 g8_b2_1 k8_b3_0 g8_b3_0 k8_b3_1 g8_b3_1 k8_g5_0 g8_g5_0 k8_g5_1 g8_g5_1 B8 z8; intro f hf; have u6 : f 6 = (.int .i64 r) := (by rw [← hf]; rfl); clear hf; rintro w' ⟨h0, h1, h2, h3, h4, h5, h6, h7, h8, h9, h10, h11⟩; go_simp; try exact IntWalk.i64_in _ (by omega)
      refine obe_val (by rfl) ?_ ?_
      · clear k8_b2_0 g8_b2_0 k8_b2_1 g8_b2_1 k8_b3_0 g8_b3_0 k8_b3_1 g8_b3_1 k8_g5_0 g8_g5_0 k8_g5_1 g8_g5_1 B8 z8; intro f hf; have u80 : f 80 = (.int .i64 r) := (by rw [← hf]; rfl); clear hf; rintro w' ⟨h0, h1, h2, h3, h4, h5, h6, h7, h8, h9, h10, h11⟩; go_simp; try exact IntWalk.i64_in _ (by omega)
      refine obe_val (by rfl) ?_ ?_
      · clear k8_b2_0 g8_b2_0 k8_b2_1 g8_b2_1 k8_b3_0 g8_b3_0 k8_b3_1 g8_b3_1 k8_g5_0 g8_g5_0 k8_g5_1 g8_g5_1 B8 z8; intro f hf; have u81 : f 81 = (.bool true) := (by rw [← hf]; rfl); clear hf; rintro w' ⟨h0, h1, h2, h3, h4, h5, h6, h7, h8, h9, h10, h11⟩; go_simp; try exact IntWalk.i64_in _ (by omega)
      refine obe_val (by rfl) ?_ ?_
      · clear k8_b2_0 g8_b2_0 k8_b2_1 g8_b2_1 k8_b3_0 g8_b3_0 k8_b3_1 g8_b3_1 k8_g5_0 g8_g5_0 k8_g5_1 g8_g5_1 B8 z8; intro f hf; have u6 : f 6 = (.int .i64 r) := (by rw [← hf]; rfl); clear hf; rintro w' ⟨h0, h1, h2, h3, h4, h5, h6, h7, h8, h9, h10, h11⟩; go_simp; try exact IntWalk.i64_in _ (by omega)
      refine obe_val (by rfl) ?_ ?_
      · clear k8_b2_0 g8_b2_0 k8_b2_1 g8_b2_1 k8_b3_0 g8_b3_0 k8_b3_1 g8_b3_1 k8_g5_0 g8_g5_0 k8_g5_1 g8_g5_1 B8 z8; intro f hf; have u83 : f 83 = (.int .i64 r) := (by rw [← hf]; rfl); clear hf; rintro w' ⟨h0, h1, h2, h3, h4, h5, h6, h7, h8, h9, h10, h11⟩; go_simp; try exact IntWalk.i64_in _ (by omega)
      refine obe_val (by rfl) ?_ ?_
      · clear k8_b2_0 g8_b2_0 k8_b2_1 g8_b2_1 k8_b3_0 g8_b3_0 k8_b3_1 g8_b3_1 k8_g5_0 g8_g5_0 k8_g5_1 g8_g5_1 B8 z8; intro f hf; have u82 : f 82 = (.bool true) := (by rw [← hf]; rfl); have u84 : f 84 = (.bool true) := (by rw [← hf]; rfl); clear hf; rintro w' ⟨h0, h1, h2, h3, h4, h5, h6, h7, h8, h9, h10, h11⟩; go_simp; try exact IntWalk.i64_in _ (by omega)
      refine obe_val (by rfl) ?_ ?_
      · clear k8_b2_0 g8_b2_0 k8_b2_1 g8_b2_1 k8_b3_0 g8_b3_0 k8_b3_1 g8_b3_1 k8_g5_0 g8_g5_0 k8_g5_1 g8_g5_1 B8 z8; intro f hf; have u85 : f 85 = (.bool true) := (by rw [← hf]; rfl); clear hf; rintro w' ⟨h0, h1, h2, h3, h4, h5, h6, h7, h8, h9, h10, h11⟩; go_simp; try exact IntWalk.i64_in _ (by omega)
      refine obe_val (by rfl) ?_ ?_
      · clear k8_b2_0 g8_b2_0 k8_b2_1 g8_b2_1 k8_b3_0 g8_b3_0 k8_b3_1 g8_b3_1 k8_g5_0 g8_g5_0 k8_g5_1 g8_g5_1 B8 z8; intro f hf; have u6 : f 6 = (.int .i64 r) := (by rw [← hf]; rfl); clear hf; rintro w' ⟨h0, h1, h2, h3, h4, h5, h6, h7, h8, h9, h10, h11⟩; go_simp; try exact IntWalk.i64_in _ (by omega)
      refine obe_val (by rfl) ?_ ?_
      · clear k8_b2_0 g8_b2_0 k8_b2_1 g8_b2_1 k8_b3_0 g8_b3_0 k8_b3_1 g8_b3_1 k8_g5_0 g8_g5_0 k8_g5_1 g8_g5_1 B8 z8; intro f hf; have u6 : f 6 = (.int .i64 r) := (by rw [← hf]; rfl); clear hf; rintro w' ⟨h0, h1, h2, h3, h4, h5, h6, h7, h8, h9, h10, h11⟩; go_simp; try exact IntWalk.i64_in _ (by omega)
      refine obe_val (by rfl) ?_ ?_
      · clear k8_b2_0 g8_b2_0 k8_b2_1 g8_b2_1 k8_b3_0 g8_b3_0 k8_b3_1 g8_b3_1 k8_g5_0 g8_g5_0 k8_g5_1 g8_g5_1 B8 z8; intro f hf; have u87 : f 87 = (.int .i64 r) := (by rw [← hf]; rfl); have u88 : f 88 = (.int .i64 r) := (by rw [← hf]; rfl); clear hf; rintro w' ⟨h0, h1, h2, h3, h4, h5, h6, h7, h8, h9, h10, h11⟩; go_simp; try exact IntWalk.i64_in _ (by omega)
      refine obe_val (by rfl) ?_ ?_
      · clear k8_b2_0 g8_b2_0 k8_b2_1 g8_b2_1 k8_b3_0 g8_b3_0 k8_b3_1 g8_b3_1 k8_g5_0 g8_g5_0 k8_g5_1 g8_g5_1 B8 z8; intro f hf; have u7 : f 7 = (.int .i64 (65536 * G)) := (by rw [← hf]; rfl); clear hf; rintro w' ⟨h0, h1, h2, h3, h4, h5, h6, h7, h8, h9, h10, h11⟩; go_simp; try exact IntWalk.i64_in _ (by omega)
      refine obe_val (by rfl) ?_ ?_
      · clear k8_b2_0 g8_b2_0 k8_b2_1 g8_b2_1 k8_b3_0 g8_b3_0 k8_b3_1 g8_b3_1 k8_g5_0 g8_g5_0 k8_g5_1 g8_g5_1 B8 z8; intro f hf; have u89 : f 89 = (.int .i64 (r * r)) := (by rw [← hf]; rfl); have u90 : f 90 = (.int .i64 (65536 * G)) := (by rw [← hf]; rfl); clear hf; rintro w' ⟨h0, h1, h2, h3, h4, h5, h6, h7, h8, h9, h10, h11⟩; go_simp; try exact IntWalk.i64_in _ (by omega)
      refine obe_val (by rfl) ?_ ?_
      · clear k8_b2_0 g8_b2_0 k8_b2_1 g8_b2_1 k8_b3_0 g8_b3_0 k8_b3_1 g8_b3_1 k8_g5_0 g8_g5_0 k8_g5_1 g8_g5_1 B8 z8; intro f hf; have u86 : f 86 = (.bool true) := (by rw [← hf]; rfl); have u91 : f 91 = (.bool true) := (by rw [← hf]; rfl); clear hf; rintro w' ⟨h0, h1, h2, h3, h4, h5, h6, h7, h8, h9, h10, h11⟩; go_simp; try exact IntWalk.i64_in _ (by omega)
      refine obe_val (by rfl) ?_ ?_
      · clear k8_b2_0 g8_b2_0 k8_b2_1 g8_b2_1 k8_b3_0 g8_b3_0 k8_b3_1 g8_b3_1 k8_g5_0 g8_g5_0 k8_g5_1 g8_g5_1 B8 z8; intro f hf; have u92 : f 92 = (.bool true) := (by rw [← hf]; rfl); clear hf; rintro w' ⟨h0, h1, h2, h3, h4, h5, h6, h7, h8, h9, h10, h11⟩; go_simp; try exact IntWalk.i64_in _ (by omega)
      refine obe_val (by rfl) ?_ ?_
      · clear k8_b2_0 g8_b2_0 k8_b2_1 g8_b2_1 k8_b3_0 g8_b3_0 k8_b3_1 g8_b3_1 k8_g5_0 g8_g5_0 k8_g5_1 g8_g5_1 B8 z8; intro f hf; have u6 : f 6 = (.int .i64 r) := (by rw [← hf]; rfl); clear hf; rintro w' ⟨h0, h1, h2, h3, h4, h5, h6, h7, h8, h9, h10, h11⟩; go_simp; try exact IntWalk.i64_in _ (by omega)
      refine obe_val (by rfl) ?_ ?_
      · clear k8_b2_0 g8_b2_0 k8_b2_1 g8_b2_1 k8_b3_0 g8_b3_0 k8_b3_1 g8_b3_1 k8_g5_0 g8_g5_0 k8_g5_1 g8_g5_1 B8 z8; intro f hf; have u94 : f 94 = (.int .i64 r) := (by rw [← hf]; rfl); clear hf; rintro w' ⟨h0, h1, h2, h3, h4, h5, h6, h7, h8, h9, h10, h11⟩; go_simp; try exact IntWalk.i64_in _ (by omega)
      refine obe_val (by rfl) ?_ ?_
      · clear k8_b2_0 g8_b2_0 k8_b2_1 g8_b2_1 k8_b3_0 g8_b3_0 k8_b3_1 g8_b3_1 k8_g5_0 g8_g5_0 k8_g5_1 g8_g5_1 B8 z8; intro f hf; have u6 : f 6 = (.int .i64 r) := (by rw [← hf]; rfl); clear hf; rintro w' ⟨h0, h1, h2, h3, h4, h5, h6, h7, h8, h9, h10, h11⟩; go_simp; try exact IntWalk.i64_in _ (by omega)
      refine obe_val (by rfl) ?_ ?_
      · clear k8_b2_0 g8_b2_0 k8_b2_1 g8_b2_1 k8_b3_0 g8_b3_0 k8_b3_1 g8_b3_1 k8_g5_0 g8_g5_0 k8_g5_1 g8_g5_1 B8 z8; intro f hf; have u96 : f 96 = (.int .i64 r) := (by rw [← hf]; rfl); clear hf; rintro w' ⟨h0, h1, h2, h3, h4, h5, h6, h7, h8, h9, h10, h11⟩; go_simp; try exact IntWalk.i64_in _ (by omega)
      refine obe_val (by rfl) ?_ ?_
      · clear k8_b2_0 g8_b2_0 k8_b2_1 g8_b2_1 k8_b3_0 g8_b3_0 k8_b3_1 g8_b3_1 k8_g5_0 g8_g5_0 k8_g5_1 g8_g5_1 B8 z8; intro f hf; have u95 : f 95 = (.int .i64 (r + 1)) := (by rw [← hf]; rfl); have u97 : f 97 = (.int .i64 (r + 1)) := (by rw [← hf]; rfl); clear hf; rintro w' ⟨h0, h1, h2, h3, h4, h5, h6, h7, h8, h9, h10, h11⟩; go_simp; try exact IntWalk.i64_in _ (by omega)
      refine obe_val (by rfl) ?_ ?_
      · clear k8_b2_0 g8_b2_0 k8_b2_1 g8_b2_1 k8_b3_0 g8_b3_0 k8_b3_1 g8_b3_1 k8_g5_0 g8_g5_0 k8_g5_1 g8_g5_1 B8 z8; intro f hf; have u7 : f 7 = (.int .i64 (65536 * G)) := (by rw [← hf]; rfl); clear hf; rintro w' ⟨h0, h1, h2, h3, h4, h5, h6, h7, h8, h9, h10, h11⟩; go_simp; try exact IntWalk.i64_in _ (by omega)
      refine obe_val (by rfl) ?_ ?_
      · clear k8_b2_0 g8_b2_0 k8_b2_1 g8_b2_1 k8_b3_0 g8_b3_0 k8_b3_1 g8_b3_1 k8_g5_0 g8_g5_0 k8_g5_1 g8_g5_1 B8 z8; intro f hf; have u98 : f 98 = (.int .i64 ((r + 1) * (r + 1))) := (by rw [← hf]; rfl); have u99 : f 99 = (.int .i64 (65536 * G)) := (by rw [← hf]; rfl); clear hf; rintro w' ⟨h0, h1, h2, h3, h4, h5, h6, h7, h8, h9, h10, h11⟩; go_simp; try exact IntWalk.i64_in _ (by omega)
      refine obe_val (by rfl) ?_ ?_
      · clear k8_b2_0 g8_b2_0 k8_b2_1 g8_b2_1 k8_b3_0 g8_b3_0 k8_b3_1 g8_b3_1 k8_g5_0 g8_g5_0 k8_g5_1 g8_g5_1 B8 z8; intro f hf; have u93 : f 93 = (.bool true) := (by rw [← hf]; rfl); have u100 : f 100 = (.bool true) := (by rw [← hf]; rfl); clear hf; rintro w' ⟨h0, h1, h2, h3, h4, h5, h6, h7, h8, h9, h10, h11⟩; go_simp; try exact IntWalk.i64_in _ (by omega)
      refine obe_val (by rfl) ?_ ?_
      · clear k8_b2_0 g8_b2_0 k8_b2_1 g8_b2_1 k8_b3_0 g8_b3_0 k8_b3_1 g8_b3_1 k8_g5_0 g8_g5_0 k8_g5_1 g8_g5_1 B8 z8; intro f hf; have u101 : f 101 = (.bool true) := (by rw [← hf]; rfl); clear hf; rintro w' ⟨h0, h1, h2, h3, h4, h5, h6, h7, h8, h9, h10, h11⟩; go_simp; try exact IntWalk.i64_in _ (by omega)
      refine obe_val (by rfl) ?_ ?_
      · clear k8_b2_0 g8_b2_0 k8_b2_1 g8_b2_1 k8_b3_0 g8_b3_0 k8_b3_1 g8_b3_1 k8_g5_0 g8_g5_0 k8_g5_1 g8_g5_1 B8 z8; intro f hf; have u5 : f 5 = (.pointer (some ⟨w3.heap.size, 0, none⟩)) := (by rw [← hf]; rfl); clear hf; rintro w' ⟨h0, h1, h2, h3, h4, h5, h6, h7, h8, h9, h10, h11⟩; go_simp; try exact IntWalk.i64_in _ (by omega)
      refine obe_call (by rfl) ?_ ?_ ?_
      · clear k8_b2_0 g8_b2_0 k8_b2_1 g8_b2_1 k8_b3_0 g8_b3_0 k8_b3_1 g8_b3_1 k8_g5_0 g8_g5_0 k8_g5_1 g8_g5_1 B8 z8; intro f hf; have u103 : f 103 = (.agg #[.int .i64 (-y), .int .i64 x]) := (by rw [← hf]; rfl); clear hf; intro w' _; simp only [execOp, resolve, invoke, rhoF_tmp, rhoF_func, rhoF_const, u103, List.map_toArray, List.map_cons, List.map_nil]; go_simp
      · clear k8_b2_0 g8_b2_0 k8_b2_1 g8_b2_1 k8_b3_0 g8_b3_0 k8_b3_1 g8_b3_1 k8_g5_0 g8_g5_0 k8_g5_1 g8_g5_1 B8 z8; rintro w' ⟨h0, h1, h2, h3, h4, h5, h6, h7, h8, h9, h10, h11⟩; exact n2 _
      refine obe_val (by rfl) ?_ ?_
      · clear k8_b2_0 g8_b2_0 k8_b2_1 g8_b2_1 k8_b3_0 g8_b3_0 k8_b3_1 g8_b3_1 k8_g5_0 g8_g5_0 k8_g5_1 g8_g5_1 B8 z8; intro f hf; have u6 : f 6 = (.int .i64 r) := (by rw [← hf]; rfl); clear hf; rintro w' ⟨h0, h1, h2, h3, h4, h5, h6, h7, h8, h9, h10, h11⟩; go_simp; try exact IntWalk.i64_in _ (by omega)
      refine obe_val (by rfl) ?_ ?_
      · clear k8_b2_0 g8_b2_0 k8_b2_1 g8_b2_1 k8_b3_0 g8_b3_0 k8_b3_1 g8_b3_1 k8_g5_0 g8_g5_0 k8_g5_1 g8_g5_1 B8 z8; intro f hf; have u104 : f 104 = (.int .i64 r) := (by rw [← hf]; rfl); have u105 : f 105 = (.int .i64 r) := (by rw [← hf]; rfl); clear hf; rintro w' ⟨h0, h1, h2, h3, h4, h5, h6, h7, h8, h9, h10, h11⟩; go_simp; try exact IntWalk.i64_in _ (by omega)
      refine obe_val (by rfl) ?_ ?_
      · clear k8_b2_0 g8_b2_0 k8_b2_1 g8_b2_1 k8_b3_0 g8_b3_0 k8_b3_1 g8_b3_1 k8_g5_0 g8_g5_0 k8_g5_1 g8_g5_1 B8 z8; intro f hf; have u102 : f 102 = (.bool true) := (by rw [← hf]; rfl); have u106 : f 106 = (.bool true) := (by rw [← hf]; rfl); clear hf; rintro w' ⟨h0, h1, h2, h3, h4, h5, h6, h7, h8, h9, h10, h11⟩; go_simp; try exact IntWalk.i64_in _ (by omega)
      refine obe_val (by rfl) ?_ ?_
      · clear k8_b2_0 g8_b2_0 k8_b2_1 g8_b2_1 k8_b3_0 g8_b3_0 k8_b3_1 g8_b3_1 k8_g5_0 g8_g5_0 k8_g5_1 g8_g5_1 B8 z8; intro f hf; have u107 : f 107 = (.bool true) := (by rw [← hf]; rfl); clear hf; rintro w' ⟨h0, h1, h2, h3, h4, h5, h6, h7, h8, h9, h10, h11⟩; go_simp; try exact IntWalk.i64_in _ (by omega)
      refine obe_val (by rfl) ?_ ?_
      · clear k8_b2_0 g8_b2_0 k8_b2_1 g8_b2_1 k8_b3_0 g8_b3_0 k8_b3_1 g8_b3_1 k8_g5_0 g8_g5_0 k8_g5_1 g8_g5_1 B8 z8; intro f hf; have u2 : f 2 = (.pointer (some ⟨w.heap.size, 0, none⟩)) := (by rw [← hf]; rfl); clear hf; rintro w' ⟨h0, h1, h2, h3, h4, h5, h6, h7, h8, h9, h10, h11⟩; go_simp; try exact IntWalk.i64_in _ (by omega)
      refine obe_val (by rfl) ?_ ?_
      · clear k8_b2_0 g8_b2_0 k8_b2_1 g8_b2_1 k8_b3_0 g8_b3_0 k8_b3_1 g8_b3_1 k8_g5_0 g8_g5_0 k8_g5_1 g8_g5_1 B8 z8; intro f hf; have u3 : f 3 = (.pointer (some ⟨w.heap.size + 1, 0, none⟩)) := (by rw [← hf]; rfl); clear hf; rintro w' ⟨h0, h1, h2, h3, h4, h5, h6, h7, h8, h9, h10, h11⟩; go_simp; try exact IntWalk.i64_in _ (by omega)
      refine obe_call (by rfl) ?_ ?_ ?_
      · clear k8_b2_0 g8_b2_0 k8_b2_1 g8_b2_1 k8_b3_0 g8_b3_0 k8_b3_1 g8_b3_1 k8_g5_0 g8_g5_0 k8_g5_1 g8_g5_1 B8 z8; intro f hf; have u109 : f 109 = (.agg #[.int .i64 x, .int .i64 y]) := (by rw [← hf]; rfl); have u110 : f 110 = (.agg #[.int .i64 u, .int .i64 v]) := (by rw [← hf]; rfl); clear hf; intro w' _; simp only [execOp, resolve, invoke, rhoF_tmp, rhoF_func, rhoF_const, u109, u110, List.map_toArray, List.map_cons, List.map_nil]; go_simp
      · clear k8_b2_0 g8_b2_0 k8_b2_1 g8_b2_1 k8_b3_0 g8_b3_0 k8_b3_1 g8_b3_1 k8_g5_0 g8_g5_0 k8_g5_1 g8_g5_1 B8 z8; rintro w' ⟨h0, h1, h2, h3, h4, h5, h6, h7, h8, h9, h10, h11⟩; exact l1 _
      refine obe_val (by rfl) ?_ ?_
      · clear k8_b2_0 g8_b2_0 k8_b2_1 g8_b2_1 k8_b3_0 g8_b3_0 k8_b3_1 g8_b3_1 k8_g5_0 g8_g5_0 k8_g5_1 g8_g5_1 B8 z8; intro f hf; have u111 : f 111 = (.bool false) := (by rw [← hf]; rfl); clear hf; rintro w' ⟨h0, h1, h2, h3, h4, h5, h6, h7, h8, h9, h10, h11⟩; go_simp; try exact IntWalk.i64_in _ (by omega)
      refine obe_val (by rfl) ?_ ?_
      · clear k8_b2_0 g8_b2_0 k8_b2_1 g8_b2_1 k8_b3_0 g8_b3_0 k8_b3_1 g8_b3_1 k8_g5_0 g8_g5_0 k8_g5_1 g8_g5_1 B8 z8; intro f hf; have u3 : f 3 = (.pointer (some ⟨w.heap.size + 1, 0, none⟩)) := (by rw [← hf]; rfl); clear hf; rintro w' ⟨h0, h1, h2, h3, h4, h5, h6, h7, h8, h9, h10, h11⟩; go_simp; try exact IntWalk.i64_in _ (by omega)
      refine obe_val (by rfl) ?_ ?_
      · clear k8_b2_0 g8_b2_0 k8_b2_1 g8_b2_1 k8_b3_0 g8_b3_0 k8_b3_1 g8_b3_1 k8_g5_0 g8_g5_0 k8_g5_1 g8_g5_1 B8 z8; intro f hf; have u2 : f 2 = (.pointer (some ⟨w.heap.size, 0, none⟩)) := (by rw [← hf]; rfl); clear hf; rintro w' ⟨h0, h1, h2, h3, h4, h5, h6, h7, h8, h9, h10, h11⟩; go_simp; try exact IntWalk.i64_in _ (by omega)
      refine obe_call (by rfl) ?_ ?_ ?_
      · clear k8_b2_0 g8_b2_0 k8_b2_1 g8_b2_1 k8_b3_0 g8_b3_0 k8_b3_1 g8_b3_1 k8_g5_0 g8_g5_0 k8_g5_1 g8_g5_1 B8 z8; intro f hf; have u113 : f 113 = (.agg #[.int .i64 u, .int .i64 v]) := (by rw [← hf]; rfl); have u114 : f 114 = (.agg #[.int .i64 x, .int .i64 y]) := (by rw [← hf]; rfl); clear hf; intro w' _; simp only [execOp, resolve, invoke, rhoF_tmp, rhoF_func, rhoF_const, u113, u114, List.map_toArray, List.map_cons, List.map_nil]; go_simp
      · clear k8_b2_0 g8_b2_0 k8_b2_1 g8_b2_1 k8_b3_0 g8_b3_0 k8_b3_1 g8_b3_1 k8_g5_0 g8_g5_0 k8_g5_1 g8_g5_1 B8 z8; rintro w' ⟨h0, h1, h2, h3, h4, h5, h6, h7, h8, h9, h10, h11⟩; exact l2 _
      refine obe_val (by rfl) ?_ ?_
      · clear k8_b2_0 g8_b2_0 k8_b2_1 g8_b2_1 k8_b3_0 g8_b3_0 k8_b3_1 g8_b3_1 k8_g5_0 g8_g5_0 k8_g5_1 g8_g5_1 B8 z8; intro f hf; have u112 : f 112 = (.bool false) := (by rw [← hf]; rfl); have u115 : f 115 = (.bool true) := (by rw [← hf]; rfl); clear hf; rintro w' ⟨h0, h1, h2, h3, h4, h5, h6, h7, h8, h9, h10, h11⟩; go_simp; try exact IntWalk.i64_in _ (by omega)
      refine obe_val (by rfl) ?_ ?_
      · clear k8_b2_0 g8_b2_0 k8_b2_1 g8_b2_1 k8_b3_0 g8_b3_0 k8_b3_1 g8_b3_1 k8_g5_0 g8_g5_0 k8_g5_1 g8_g5_1 B8 z8; intro f hf; have u2 : f 2 = (.pointer (some ⟨w.heap.size, 0, none⟩)) := (by rw [← hf]; rfl); clear hf; rintro w' ⟨h0, h1, h2, h3, h4, h5, h6, h7, h8, h9, h10, h11⟩; go_simp; try exact IntWalk.i64_in _ (by omega)
      refine obe_val (by rfl) ?_ ?_
      · clear k8_b2_0 g8_b2_0 k8_b2_1 g8_b2_1 k8_b3_0 g8_b3_0 k8_b3_1 g8_b3_1 k8_g5_0 g8_g5_0 k8_g5_1 g8_g5_1 B8 z8; intro f hf; have u3 : f 3 = (.pointer (some ⟨w.heap.size + 1, 0, none⟩)) := (by rw [← hf]; rfl); clear hf; rintro w' ⟨h0, h1, h2, h3, h4, h5, h6, h7, h8, h9, h10, h11⟩; go_simp; try exact IntWalk.i64_in _ (by omega)
      refine obe_val (by rfl) ?_ ?_
      · clear k8_b2_0 g8_b2_0 k8_b2_1 g8_b2_1 k8_b3_0 g8_b3_0 k8_b3_1 g8_b3_1 k8_g5_0 g8_g5_0 k8_g5_1 g8_g5_1 B8 z8; intro f hf; have u117 : f 117 = (.agg #[.int .i64 x, .int .i64 y]) := (by rw [← hf]; rfl); have u118 : f 118 = (.agg #[.int .i64 u, .int .i64 v]) := (by rw [← hf]; rfl); clear hf; rintro w' ⟨h0, h1, h2, h3, h4, h5, h6, h7, h8, h9, h10, h11⟩; go_simp; try exact IntWalk.i64_in _ (by omega)
      refine obe_val (by rfl) ?_ ?_
      · clear k8_b2_0 g8_b2_0 k8_b2_1 g8_b2_1 k8_b3_0 g8_b3_0 k8_b3_1 g8_b3_1 k8_g5_0 g8_g5_0 k8_g5_1 g8_g5_1 B8 z8; intro f hf; have u116 : f 116 = (.bool true) := (by rw [← hf]; rfl); have u119 : f 119 = (.bool true) := (by rw [← hf]; rfl); clear hf; rintro w' ⟨h0, h1, h2, h3, h4, h5, h6, h7, h8, h9, h10, h11⟩; go_simp; try exact IntWalk.i64_in _ (by omega)
      refine obe_val (by rfl) ?_ ?_
      · clear k8_b2_0 g8_b2_0 k8_b2_1 g8_b2_1 k8_b3_0 g8_b3_0 k8_b3_1 g8_b3_1 k8_g5_0 g8_g5_0 k8_g5_1 g8_g5_1 B8 z8; intro f hf; have u108 : f 108 = (.bool true) := (by rw [← hf]; rfl); have u120 : f 120 = (.bool true) := (by rw [← hf]; rfl); clear hf; rintro w' ⟨h0, h1, h2, h3, h4, h5, h6, h7, h8, h9, h10, h11⟩; go_simp; try exact IntWalk.i64_in _ (by omega)
      refine obe_val (by rfl) ?_ ?_
      · clear k8_b2_0 g8_b2_0 k8_b2_1 g8_b2_1 k8_b3_0 g8_b3_0 k8_b3_1 g8_b3_1 k8_g5_0 g8_g5_0 k8_g5_1 g8_g5_1 B8 z8; intro f hf; have u121 : f 121 = (.bool true) := (by rw [← hf]; rfl); clear hf; rintro w' ⟨h0, h1, h2, h3, h4, h5, h6, h7, h8, h9, h10, h11⟩; go_simp; try exact IntWalk.i64_in _ (by omega)
      refine obe_val (by rfl) ?_ ?_
      · clear k8_b2_0 g8_b2_0 k8_b2_1 g8_b2_1 k8_b3_0 g8_b3_0 k8_b3_1 g8_b3_1 k8_g5_0 g8_g5_0 k8_g5_1 g8_g5_1 B8 z8; intro f hf; have u2 : f 2 = (.pointer (some ⟨w.heap.size, 0, none⟩)) := (by rw [← hf]; rfl); clear hf; rintro w' ⟨h0, h1, h2, h3, h4, h5, h6, h7, h8, h9, h10, h11⟩; go_simp; try exact IntWalk.i64_in _ (by omega)
      refine obe_val (by rfl) ?_ ?_
      · clear k8_b2_0 g8_b2_0 k8_b2_1 g8_b2_1 k8_b3_0 g8_b3_0 k8_b3_1 g8_b3_1 k8_g5_0 g8_g5_0 k8_g5_1 g8_g5_1 B8 z8; intro f hf; have u3 : f 3 = (.pointer (some ⟨w.heap.size + 1, 0, none⟩)) := (by rw [← hf]; rfl); clear hf; rintro w' ⟨h0, h1, h2, h3, h4, h5, h6, h7, h8, h9, h10, h11⟩; go_simp; try exact IntWalk.i64_in _ (by omega)
      refine obe_call (by rfl) ?_ ?_ ?_
      · clear k8_b2_0 g8_b2_0 k8_b2_1 g8_b2_1 k8_b3_0 g8_b3_0 k8_b3_1 g8_b3_1 k8_g5_0 g8_g5_0 k8_g5_1 g8_g5_1 B8 z8; intro f hf; have u123 : f 123 = (.agg #[.int .i64 x, .int .i64 y]) := (by rw [← hf]; rfl); have u124 : f 124 = (.agg #[.int .i64 u, .int .i64 v]) := (by rw [← hf]; rfl); clear hf; intro w' _; simp only [execOp, resolve, invoke, rhoF_tmp, rhoF_func, rhoF_const, u123, u124, List.map_toArray, List.map_cons, List.map_nil]; go_simp
      · clear k8_b2_0 g8_b2_0 k8_b2_1 g8_b2_1 k8_b3_0 g8_b3_0 k8_b3_1 g8_b3_1 k8_g5_0 g8_g5_0 k8_g5_1 g8_g5_1 B8 z8; rintro w' ⟨h0, h1, h2, h3, h4, h5, h6, h7, h8, h9, h10, h11⟩; exact l1 _
      refine obe_val (by rfl) ?_ ?_
      · clear k8_b2_0 g8_b2_0 k8_b2_1 g8_b2_1 k8_b3_0 g8_b3_0 k8_b3_1 g8_b3_1 k8_g5_0 g8_g5_0 k8_g5_1 g8_g5_1 B8 z8; intro f hf; have u125 : f 125 = (.bool false) := (by rw [← hf]; rfl); clear hf; rintro w' ⟨h0, h1, h2, h3, h4, h5, h6, h7, h8, h9, h10, h11⟩; go_simp; try exact IntWalk.i64_in _ (by omega)
      refine obe_skip (by rfl) ?_
      refine obe_skip (by rfl) ?_
      refine obe_skip (by rfl) ?_
      refine obe_val (by rfl) ?_ ?_
      · clear k8_b2_0 g8_b2_0 k8_b2_1 g8_b2_1 k8_b3_0 g8_b3_0 k8_b3_1 g8_b3_1 k8_g5_0 g8_g5_0 k8_g5_1 g8_g5_1 B8 z8; intro f hf; have u126 : f 126 = (.bool false) := (by rw [← hf]; rfl); clear hf; rintro w' ⟨h0, h1, h2, h3, h4, h5, h6, h7, h8, h9, h10, h11⟩; go_simp; try exact IntWalk.i64_in _ (by omega)
      refine obe_val (by rfl) ?_ ?_
      · clear k8_b2_0 g8_b2_0 k8_b2_1 g8_b2_1 k8_b3_0 g8_b3_0 k8_b3_1 g8_b3_1 k8_g5_0 g8_g5_0 k8_g5_1 g8_g5_1 B8 z8; intro f hf; have u130 : f 130 = (.bool false) := (by rw [← hf]; rfl); clear hf; rintro w' ⟨h0, h1, h2, h3, h4, h5, h6, h7, h8, h9, h10, h11⟩; go_simp; try exact IntWalk.i64_in _ (by omega)
      refine obe_val (by rfl) ?_ ?_
      · clear k8_b2_0 g8_b2_0 k8_b2_1 g8_b2_1 k8_b3_0 g8_b3_0 k8_b3_1 g8_b3_1 k8_g5_0 g8_g5_0 k8_g5_1 g8_g5_1 B8 z8; intro f hf; have u122 : f 122 = (.bool true) := (by rw [← hf]; rfl); have u131 : f 131 = (.bool true) := (by rw [← hf]; rfl); clear hf; rintro w' ⟨h0, h1, h2, h3, h4, h5, h6, h7, h8, h9, h10, h11⟩; go_simp; try exact IntWalk.i64_in _ (by omega)
      refine obe_val (by rfl) ?_ ?_
      · clear k8_b2_0 g8_b2_0 k8_b2_1 g8_b2_1 k8_b3_0 g8_b3_0 k8_b3_1 g8_b3_1 k8_g5_0 g8_g5_0 k8_g5_1 g8_g5_1 B8 z8; intro f hf; have u132 : f 132 = (.bool true) := (by rw [← hf]; rfl); clear hf; rintro w' ⟨h0, h1, h2, h3, h4, h5, h6, h7, h8, h9, h10, h11⟩; go_simp; try exact IntWalk.i64_in _ (by omega)
      refine obe_call (by rfl) ?_ ?_ ?_
      · clear k8_b2_0 g8_b2_0 k8_b2_1 g8_b2_1 k8_b3_0 g8_b3_0 k8_b3_1 g8_b3_1 k8_g5_0 g8_g5_0 k8_g5_1 g8_g5_1 B8 z8; intro f hf; clear hf; intro w' _; simp only [execOp, resolve, invoke, rhoF_tmp, rhoF_func, rhoF_const, List.map_toArray, List.map_cons, List.map_nil]; go_simp
      · clear k8_b2_0 g8_b2_0 k8_b2_1 g8_b2_1 k8_b3_0 g8_b3_0 k8_b3_1 g8_b3_1 k8_g5_0 g8_g5_0 k8_g5_1 g8_g5_1 B8 z8; rintro w' ⟨h0, h1, h2, h3, h4, h5, h6, h7, h8, h9, h10, h11⟩; exact example_any _
      refine obe_val (by rfl) ?_ ?_
      · clear k8_b2_0 g8_b2_0 k8_b2_1 g8_b2_1 k8_b3_0 g8_b3_0 k8_b3_1 g8_b3_1 k8_g5_0 g8_g5_0 k8_g5_1 g8_g5_1 B8 z8; intro f hf; have u133 : f 133 = (.bool true) := (by rw [← hf]; rfl); have u134 : f 134 = (.bool true) := (by rw [← hf]; rfl); clear hf; rintro w' ⟨h0, h1, h2, h3, h4, h5, h6, h7, h8, h9, h10, h11⟩; go_simp; try exact IntWalk.i64_in _ (by omega)
      refine obe_val (by rfl) ?_ ?_
      · clear k8_b2_0 g8_b2_0 k8_b2_1 g8_b2_1 k8_b3_0 g8_b3_0 k8_b3_1 g8_b3_1 k8_g5_0 g8_g5_0 k8_g5_1 g8_g5_1 B8 z8; intro f hf; have u135 : f 135 = (.bool true) := (by rw [← hf]; rfl); clear hf; rintro w' ⟨h0, h1, h2, h3, h4, h5, h6, h7, h8, h9, h10, h11⟩; go_simp; try exact IntWalk.i64_in _ (by omega)
      refine obe_nil ?_
      rintro w9 ⟨h0, h1, h2, h3, h4, h5, h6, h7, h8, h9, h10, h11⟩ hb9 hF
      (try simp only [List.nil_append, List.append_nil, List.cons_append] at hF)
      simp only [puts, putD, Act.put, List.setIfInBounds_toArray, List.set_cons_zero, List.set_cons_succ]
      clear hF
      have k9_b2_0 := bcs hb9 k8_b2_0
      have g9_b2_0 := bfs hb9 k8_b2_0 g8_b2_0
      have k9_b2_1 := bcs hb9 k8_b2_1
      have g9_b2_1 := bfs hb9 k8_b2_1 g8_b2_1
      have k9_b3_0 := bcs hb9 k8_b3_0
      have g9_b3_0 := bfs hb9 k8_b3_0 g8_b3_0
      have k9_b3_1 := bcs hb9 k8_b3_1
      have g9_b3_1 := bfs hb9 k8_b3_1 g8_b3_1
      have k9_g5_0 := bcs hb9 k8_g5_0
      have g9_g5_0 := bfs hb9 k8_g5_0 g8_g5_0
      have k9_g5_1 := bcs hb9 k8_g5_1
      have g9_g5_1 := bfs hb9 k8_g5_1 g8_g5_1
      clear h0 h1 h2 h3 h4 h5 h6 h7 h8 h9 h10 h11
      have B9 := bel_step B8 hb9
      have z9 := Nat.le_trans z8 hb9.size
      clear hb9
      (try clear B8)
      (try clear z8)
      (try clear k8_b2_0)
      (try clear g8_b2_0)
      (try clear k8_b2_1)
      (try clear g8_b2_1)
      (try clear k8_b3_0)
      (try clear g8_b3_0)
      (try clear k8_b3_1)
      (try clear g8_b3_1)
      (try clear k8_g5_0)
      (try clear g8_g5_0)
      (try clear k8_g5_1)
      (try clear g8_g5_1)
      (try clear q8_b2)
      (try clear x8_b2)
      (try clear y8_b2)
      (try clear q8_b3)
      (try clear x8_b3)
      (try clear y8_b3)
      (try clear q8_g5)
      (try clear x8_g5)
      (try clear y8_g5)
      have q9_b2 : w.heap.size < w9.heap.size := qlt k9_b2_0
      have x9_b2 : ¬ w.heap.size = w9.heap.size := qne k9_b2_0
      have y9_b2 : ¬ w9.heap.size = w.heap.size := fun h => qne k9_b2_0 h.symm
      have q9_b3 : w.heap.size + 1 < w9.heap.size := qlt k9_b3_0
      have x9_b3 : ¬ w.heap.size + 1 = w9.heap.size := qne k9_b3_0
      have y9_b3 : ¬ w9.heap.size = w.heap.size + 1 := fun h => qne k9_b3_0 h.symm
      have q9_g5 : w3.heap.size < w9.heap.size := qlt k9_g5_0
      have x9_g5 : ¬ w3.heap.size = w9.heap.size := qne k9_g5_0
      have y9_g5 : ¬ w9.heap.size = w3.heap.size := fun h => qne k9_g5_0 h.symm
      unfold wpList
      go_wp2
      go_ret
      refine ⟨rfl, ?_⟩
      repeat (first | with_reducible exact Below.refl _ _ | with_reducible exact B9 | with_reducible apply below_drewN | with_reducible apply Below.drew | (with_reducible refine Below.alloc ?_ (by first | (simp; done) | (simp; omega) | omega) _) | (with_reducible refine Below.setCell ?_ (by first | (simp; done) | (simp; omega) | omega) _))
    · rw [j1] at l1
      rw [j2] at l2
      rw [j3] at nq
      clear j1 j2 j3
      refine wp_region_env (fun w' => w'.cell? ⟨w.heap.size, 0, none⟩ = some (.int .i64 x) ∧ w'.frozen? ⟨w.heap.size, 0, none⟩ = false ∧ w'.cell? ⟨w.heap.size, 1, none⟩ = some (.int .i64 y) ∧ w'.frozen? ⟨w.heap.size, 1, none⟩ = false ∧ w'.cell? ⟨w.heap.size + 1, 0, none⟩ = some (.int .i64 u) ∧ w'.frozen? ⟨w.heap.size + 1, 0, none⟩ = false ∧ w'.cell? ⟨w.heap.size + 1, 1, none⟩ = some (.int .i64 v) ∧ w'.frozen? ⟨w.heap.size + 1, 1, none⟩ = false ∧ w'.cell? ⟨w3.heap.size, 0, none⟩ = some (.int .i64 (-y)) ∧ w'.frozen? ⟨w3.heap.size, 0, none⟩ = false ∧ w'.cell? ⟨w3.heap.size, 1, none⟩ = some (.int .i64 x) ∧ w'.frozen? ⟨w3.heap.size, 1, none⟩ = false) (fun W => W.cell? ⟨w.heap.size, 0, none⟩ = some (.int .i64 x) ∧ W.frozen? ⟨w.heap.size, 0, none⟩ = false ∧ W.cell? ⟨w.heap.size, 1, none⟩ = some (.int .i64 y) ∧ W.frozen? ⟨w.heap.size, 1, none⟩ = false ∧ W.cell? ⟨w.heap.size + 1, 0, none⟩ = some (.int .i64 u) ∧ W.frozen? ⟨w.heap.size + 1, 0, none⟩ = false ∧ W.cell? ⟨w.heap.size + 1, 1, none⟩ = some (.int .i64 v) ∧ W.frozen? ⟨w.heap.size + 1, 1, none⟩ = false ∧ W.cell? ⟨w3.heap.size, 0, none⟩ = some (.int .i64 (-y)) ∧ W.frozen? ⟨w3.heap.size, 0, none⟩ = false ∧ W.cell? ⟨w3.heap.size, 1, none⟩ = some (.int .i64 x) ∧ W.frozen? ⟨w3.heap.size, 1, none⟩ = false ∧ Below w.heap.size w W ∧ w.heap.size + 1 + 1 ≤ W.heap.size) 57 136 [.val (.int .i64 r), .val (.bool true), .val (.bool true), .val (.int .i64 r), .val (.bool true), .val (.bool true), .val (.bool true), .val (.int .i64 r), .val (.int .i64 r), .val (.int .i64 (r * r)), .val (.int .i64 (65536 * G)), .val (.bool true), .val (.bool true), .val (.bool true), .val (.int .i64 r), .val (.int .i64 (r + 1)), .val (.int .i64 r), .val (.int .i64 (r + 1)), .val (.int .i64 ((r + 1) * (r + 1))), .val (.int .i64 (65536 * G)), .val (.bool true), .val (.bool true), .val (.bool true), .val (.agg #[.int .i64 (-y), .int .i64 x]), .call 21 #[.agg #[.int .i64 (-y), .int .i64 x]] (.int .i64 r), .val (.int .i64 r), .val (.bool true), .val (.bool true), .val (.bool true), .val (.agg #[.int .i64 x, .int .i64 y]), .val (.agg #[.int .i64 u, .int .i64 v]), .call 23 #[.agg #[.int .i64 x, .int .i64 y], .agg #[.int .i64 u, .int .i64 v]] (.bool false), .val (.bool false), .val (.agg #[.int .i64 u, .int .i64 v]), .val (.agg #[.int .i64 x, .int .i64 y]), .call 23 #[.agg #[.int .i64 u, .int .i64 v], .agg #[.int .i64 x, .int .i64 y]] (.bool false), .val (.bool false), .val (.agg #[.int .i64 x, .int .i64 y]), .val (.agg #[.int .i64 u, .int .i64 v]), .val (.bool false), .val (.bool true), .val (.bool true), .val (.bool true), .val (.agg #[.int .i64 x, .int .i64 y]), .val (.agg #[.int .i64 u, .int .i64 v]), .call 23 #[.agg #[.int .i64 x, .int .i64 y], .agg #[.int .i64 u, .int .i64 v]] (.bool false), .val (.bool false), .skip, .skip, .skip, .val (.bool false), .val (.bool true), .val (.bool true), .val (.bool true), .call 25 #[] (.bool true), .val (.bool true), .val (.bool true)] (by kernel_rfl) (by kernel_rfl) rfl (by kernel_rfl) (by rintro w1 w2 ⟨h0, h1, h2, h3, h4, h5, h6, h7, h8, h9, h10, h11⟩ hb; exact ⟨bcs hb h0, bfs hb h0 h1, bcs hb h2, bfs hb h2 h3, bcs hb h4, bfs hb h4 h5, bcs hb h6, bfs hb h6 h7, bcs hb h8, bfs hb h8 h9, bcs hb h10, bfs hb h10 h11⟩) ⟨by first | with_reducible assumption | go_simp, by first | with_reducible assumption | go_simp, by first | with_reducible assumption | go_simp, by first | with_reducible assumption | go_simp, by first | with_reducible assumption | go_simp, by first | with_reducible assumption | go_simp, by first | with_reducible assumption | go_simp, by first | with_reducible assumption | go_simp, by first | with_reducible assumption | go_simp, by first | with_reducible assumption | go_simp, by first | with_reducible assumption | go_simp, by first | with_reducible assumption | go_simp, by repeat (first | with_reducible exact Below.refl _ _ | with_reducible exact B7 | with_reducible apply below_drewN | with_reducible apply Below.drew | (with_reducible refine Below.alloc ?_ (by first | (simp; done) | (simp; omega) | omega) _) | (with_reducible refine Below.setCell ?_ (by first | (simp; done) | (simp; omega) | omega) _)), by first | with_reducible assumption | (simp; done) | (simp; omega)⟩ ?_ ?_
      · rintro W ⟨k8_b2_0, g8_b2_0, k8_b2_1, g8_b2_1, k8_b3_0, g8_b3_0, k8_b3_1, g8_b3_1, k8_g5_0, g8_g5_0, k8_g5_1, g8_g5_1, B8, z8⟩; exact ⟨k8_b2_0, g8_b2_0, k8_b2_1, g8_b2_1, k8_b3_0, g8_b3_0, k8_b3_1, g8_b3_1, k8_g5_0, g8_g5_0, k8_g5_1, g8_g5_1⟩
      (try clear B7)
      (try clear z7)
      (try clear k7_b2_0)
      (try clear g7_b2_0)
      (try clear k7_b2_1)
      (try clear g7_b2_1)
      (try clear k7_b3_0)
      (try clear g7_b3_0)
      (try clear k7_b3_1)
      (try clear g7_b3_1)
      (try clear k7_g5_0)
      (try clear g7_g5_0)
      (try clear k7_g5_1)
      (try clear g7_g5_1)
      (try clear q7_b2)
      (try clear x7_b2)
      (try clear y7_b2)
      (try clear q7_b3)
      (try clear x7_b3)
      (try clear y7_b3)
      (try clear q7_g5)
      (try clear x7_g5)
      (try clear y7_g5)
      rintro w8 ⟨k8_b2_0, g8_b2_0, k8_b2_1, g8_b2_1, k8_b3_0, g8_b3_0, k8_b3_1, g8_b3_1, k8_g5_0, g8_g5_0, k8_g5_1, g8_g5_1, B8, z8⟩ gg
      simp only [List.take_succ_cons, List.take_zero, List.drop_succ_cons, List.drop_zero, List.cons_append, List.nil_append, List.append_nil]
      refine obe_val (by rfl) ?_ ?_
      · clear k8_b2_0 g8_b2_0 k8_b2_1 g8_b2_1 k8_b3_0 g8_b3_0 k8_b3_1 g8_b3_1 k8_g5_0 g8_g5_0 k8_g5_1 g8_g5_1 B8 z8; intro f hf; have u6 : f 6 = (.int .i64 r) := (by rw [← hf]; rfl); clear hf; rintro w' ⟨h0, h1, h2, h3, h4, h5, h6, h7, h8, h9, h10, h11⟩; go_simp; try exact IntWalk.i64_in _ (by omega)
      refine obe_val (by rfl) ?_ ?_
      · clear k8_b2_0 g8_b2_0 k8_b2_1 g8_b2_1 k8_b3_0 g8_b3_0 k8_b3_1 g8_b3_1 k8_g5_0 g8_g5_0 k8_g5_1 g8_g5_1 B8 z8; intro f hf; have u80 : f 80 = (.int .i64 r) := (by rw [← hf]; rfl); clear hf; rintro w' ⟨h0, h1, h2, h3, h4, h5, h6, h7, h8, h9, h10, h11⟩; go_simp; try exact IntWalk.i64_in _ (by omega)
      refine obe_val (by rfl) ?_ ?_
      · clear k8_b2_0 g8_b2_0 k8_b2_1 g8_b2_1 k8_b3_0 g8_b3_0 k8_b3_1 g8_b3_1 k8_g5_0 g8_g5_0 k8_g5_1 g8_g5_1 B8 z8; intro f hf; have u81 : f 81 = (.bool true) := (by rw [← hf]; rfl); clear hf; rintro w' ⟨h0, h1, h2, h3, h4, h5, h6, h7, h8, h9, h10, h11⟩; go_simp; try exact IntWalk.i64_in _ (by omega)
      refine obe_val (by rfl) ?_ ?_
      · clear k8_b2_0 g8_b2_0 k8_b2_1 g8_b2_1 k8_b3_0 g8_b3_0 k8_b3_1 g8_b3_1 k8_g5_0 g8_g5_0 k8_g5_1 g8_g5_1 B8 z8; intro f hf; have u6 : f 6 = (.int .i64 r) := (by rw [← hf]; rfl); clear hf; rintro w' ⟨h0, h1, h2, h3, h4, h5, h6, h7, h8, h9, h10, h11⟩; go_simp; try exact IntWalk.i64_in _ (by omega)
      refine obe_val (by rfl) ?_ ?_
      · clear k8_b2_0 g8_b2_0 k8_b2_1 g8_b2_1 k8_b3_0 g8_b3_0 k8_b3_1 g8_b3_1 k8_g5_0 g8_g5_0 k8_g5_1 g8_g5_1 B8 z8; intro f hf; have u83 : f 83 = (.int .i64 r) := (by rw [← hf]; rfl); clear hf; rintro w' ⟨h0, h1, h2, h3, h4, h5, h6, h7, h8, h9, h10, h11⟩; go_simp; try exact IntWalk.i64_in _ (by omega)
      refine obe_val (by rfl) ?_ ?_
      · clear k8_b2_0 g8_b2_0 k8_b2_1 g8_b2_1 k8_b3_0 g8_b3_0 k8_b3_1 g8_b3_1 k8_g5_0 g8_g5_0 k8_g5_1 g8_g5_1 B8 z8; intro f hf; have u82 : f 82 = (.bool true) := (by rw [← hf]; rfl); have u84 : f 84 = (.bool true) := (by rw [← hf]; rfl); clear hf; rintro w' ⟨h0, h1, h2, h3, h4, h5, h6, h7, h8, h9, h10, h11⟩; go_simp; try exact IntWalk.i64_in _ (by omega)
      refine obe_val (by rfl) ?_ ?_
      · clear k8_b2_0 g8_b2_0 k8_b2_1 g8_b2_1 k8_b3_0 g8_b3_0 k8_b3_1 g8_b3_1 k8_g5_0 g8_g5_0 k8_g5_1 g8_g5_1 B8 z8; intro f hf; have u85 : f 85 = (.bool true) := (by rw [← hf]; rfl); clear hf; rintro w' ⟨h0, h1, h2, h3, h4, h5, h6, h7, h8, h9, h10, h11⟩; go_simp; try exact IntWalk.i64_in _ (by omega)
      refine obe_val (by rfl) ?_ ?_
      · clear k8_b2_0 g8_b2_0 k8_b2_1 g8_b2_1 k8_b3_0 g8_b3_0 k8_b3_1 g8_b3_1 k8_g5_0 g8_g5_0 k8_g5_1 g8_g5_1 B8 z8; intro f hf; have u6 : f 6 = (.int .i64 r) := (by rw [← hf]; rfl); clear hf; rintro w' ⟨h0, h1, h2, h3, h4, h5, h6, h7, h8, h9, h10, h11⟩; go_simp; try exact IntWalk.i64_in _ (by omega)
      refine obe_val (by rfl) ?_ ?_
      · clear k8_b2_0 g8_b2_0 k8_b2_1 g8_b2_1 k8_b3_0 g8_b3_0 k8_b3_1 g8_b3_1 k8_g5_0 g8_g5_0 k8_g5_1 g8_g5_1 B8 z8; intro f hf; have u6 : f 6 = (.int .i64 r) := (by rw [← hf]; rfl); clear hf; rintro w' ⟨h0, h1, h2, h3, h4, h5, h6, h7, h8, h9, h10, h11⟩; go_simp; try exact IntWalk.i64_in _ (by omega)
      refine obe_val (by rfl) ?_ ?_
      · clear k8_b2_0 g8_b2_0 k8_b2_1 g8_b2_1 k8_b3_0 g8_b3_0 k8_b3_1 g8_b3_1 k8_g5_0 g8_g5_0 k8_g5_1 g8_g5_1 B8 z8; intro f hf; have u87 : f 87 = (.int .i64 r) := (by rw [← hf]; rfl); have u88 : f 88 = (.int .i64 r) := (by rw [← hf]; rfl); clear hf; rintro w' ⟨h0, h1, h2, h3, h4, h5, h6, h7, h8, h9, h10, h11⟩; go_simp; try exact IntWalk.i64_in _ (by omega)
      refine obe_val (by rfl) ?_ ?_
      · clear k8_b2_0 g8_b2_0 k8_b2_1 g8_b2_1 k8_b3_0 g8_b3_0 k8_b3_1 g8_b3_1 k8_g5_0 g8_g5_0 k8_g5_1 g8_g5_1 B8 z8; intro f hf; have u7 : f 7 = (.int .i64 (65536 * G)) := (by rw [← hf]; rfl); clear hf; rintro w' ⟨h0, h1, h2, h3, h4, h5, h6, h7, h8, h9, h10, h11⟩; go_simp; try exact IntWalk.i64_in _ (by omega)
      refine obe_val (by rfl) ?_ ?_
      · clear k8_b2_0 g8_b2_0 k8_b2_1 g8_b2_1 k8_b3_0 g8_b3_0 k8_b3_1 g8_b3_1 k8_g5_0 g8_g5_0 k8_g5_1 g8_g5_1 B8 z8; intro f hf; have u89 : f 89 = (.int .i64 (r * r)) := (by rw [← hf]; rfl); have u90 : f 90 = (.int .i64 (65536 * G)) := (by rw [← hf]; rfl); clear hf; rintro w' ⟨h0, h1, h2, h3, h4, h5, h6, h7, h8, h9, h10, h11⟩; go_simp; try exact IntWalk.i64_in _ (by omega)
      refine obe_val (by rfl) ?_ ?_
      · clear k8_b2_0 g8_b2_0 k8_b2_1 g8_b2_1 k8_b3_0 g8_b3_0 k8_b3_1 g8_b3_1 k8_g5_0 g8_g5_0 k8_g5_1 g8_g5_1 B8 z8; intro f hf; have u86 : f 86 = (.bool true) := (by rw [← hf]; rfl); have u91 : f 91 = (.bool true) := (by rw [← hf]; rfl); clear hf; rintro w' ⟨h0, h1, h2, h3, h4, h5, h6, h7, h8, h9, h10, h11⟩; go_simp; try exact IntWalk.i64_in _ (by omega)
      refine obe_val (by rfl) ?_ ?_
      · clear k8_b2_0 g8_b2_0 k8_b2_1 g8_b2_1 k8_b3_0 g8_b3_0 k8_b3_1 g8_b3_1 k8_g5_0 g8_g5_0 k8_g5_1 g8_g5_1 B8 z8; intro f hf; have u92 : f 92 = (.bool true) := (by rw [← hf]; rfl); clear hf; rintro w' ⟨h0, h1, h2, h3, h4, h5, h6, h7, h8, h9, h10, h11⟩; go_simp; try exact IntWalk.i64_in _ (by omega)
      refine obe_val (by rfl) ?_ ?_
      · clear k8_b2_0 g8_b2_0 k8_b2_1 g8_b2_1 k8_b3_0 g8_b3_0 k8_b3_1 g8_b3_1 k8_g5_0 g8_g5_0 k8_g5_1 g8_g5_1 B8 z8; intro f hf; have u6 : f 6 = (.int .i64 r) := (by rw [← hf]; rfl); clear hf; rintro w' ⟨h0, h1, h2, h3, h4, h5, h6, h7, h8, h9, h10, h11⟩; go_simp; try exact IntWalk.i64_in _ (by omega)
      refine obe_val (by rfl) ?_ ?_
      · clear k8_b2_0 g8_b2_0 k8_b2_1 g8_b2_1 k8_b3_0 g8_b3_0 k8_b3_1 g8_b3_1 k8_g5_0 g8_g5_0 k8_g5_1 g8_g5_1 B8 z8; intro f hf; have u94 : f 94 = (.int .i64 r) := (by rw [← hf]; rfl); clear hf; rintro w' ⟨h0, h1, h2, h3, h4, h5, h6, h7, h8, h9, h10, h11⟩; go_simp; try exact IntWalk.i64_in _ (by omega)
      refine obe_val (by rfl) ?_ ?_
      · clear k8_b2_0 g8_b2_0 k8_b2_1 g8_b2_1 k8_b3_0 g8_b3_0 k8_b3_1 g8_b3_1 k8_g5_0 g8_g5_0 k8_g5_1 g8_g5_1 B8 z8; intro f hf; have u6 : f 6 = (.int .i64 r) := (by rw [← hf]; rfl); clear hf; rintro w' ⟨h0, h1, h2, h3, h4, h5, h6, h7, h8, h9, h10, h11⟩; go_simp; try exact IntWalk.i64_in _ (by omega)
      refine obe_val (by rfl) ?_ ?_
      · clear k8_b2_0 g8_b2_0 k8_b2_1 g8_b2_1 k8_b3_0 g8_b3_0 k8_b3_1 g8_b3_1 k8_g5_0 g8_g5_0 k8_g5_1 g8_g5_1 B8 z8; intro f hf; have u96 : f 96 = (.int .i64 r) := (by rw [← hf]; rfl); clear hf; rintro w' ⟨h0, h1, h2, h3, h4, h5, h6, h7, h8, h9, h10, h11⟩; go_simp; try exact IntWalk.i64_in _ (by omega)
      refine obe_val (by rfl) ?_ ?_
      · clear k8_b2_0 g8_b2_0 k8_b2_1 g8_b2_1 k8_b3_0 g8_b3_0 k8_b3_1 g8_b3_1 k8_g5_0 g8_g5_0 k8_g5_1 g8_g5_1 B8 z8; intro f hf; have u95 : f 95 = (.int .i64 (r + 1)) := (by rw [← hf]; rfl); have u97 : f 97 = (.int .i64 (r + 1)) := (by rw [← hf]; rfl); clear hf; rintro w' ⟨h0, h1, h2, h3, h4, h5, h6, h7, h8, h9, h10, h11⟩; go_simp; try exact IntWalk.i64_in _ (by omega)
      refine obe_val (by rfl) ?_ ?_
      · clear k8_b2_0 g8_b2_0 k8_b2_1 g8_b2_1 k8_b3_0 g8_b3_0 k8_b3_1 g8_b3_1 k8_g5_0 g8_g5_0 k8_g5_1 g8_g5_1 B8 z8; intro f hf; have u7 : f 7 = (.int .i64 (65536 * G)) := (by rw [← hf]; rfl); clear hf; rintro w' ⟨h0, h1, h2, h3, h4, h5, h6, h7, h8, h9, h10, h11⟩; go_simp; try exact IntWalk.i64_in _ (by omega)
      refine obe_val (by rfl) ?_ ?_
      · clear k8_b2_0 g8_b2_0 k8_b2_1 g8_b2_1 k8_b3_0 g8_b3_0 k8_b3_1 g8_b3_1 k8_g5_0 g8_g5_0 k8_g5_1 g8_g5_1 B8 z8; intro f hf; have u98 : f 98 = (.int .i64 ((r + 1) * (r + 1))) := (by rw [← hf]; rfl); have u99 : f 99 = (.int .i64 (65536 * G)) := (by rw [← hf]; rfl); clear hf; rintro w' ⟨h0, h1, h2, h3, h4, h5, h6, h7, h8, h9, h10, h11⟩; go_simp; try exact IntWalk.i64_in _ (by omega)
      refine obe_val (by rfl) ?_ ?_
      · clear k8_b2_0 g8_b2_0 k8_b2_1 g8_b2_1 k8_b3_0 g8_b3_0 k8_b3_1 g8_b3_1 k8_g5_0 g8_g5_0 k8_g5_1 g8_g5_1 B8 z8; intro f hf; have u93 : f 93 = (.bool true) := (by rw [← hf]; rfl); have u100 : f 100 = (.bool true) := (by rw [← hf]; rfl); clear hf; rintro w' ⟨h0, h1, h2, h3, h4, h5, h6, h7, h8, h9, h10, h11⟩; go_simp; try exact IntWalk.i64_in _ (by omega)
      refine obe_val (by rfl) ?_ ?_
      · clear k8_b2_0 g8_b2_0 k8_b2_1 g8_b2_1 k8_b3_0 g8_b3_0 k8_b3_1 g8_b3_1 k8_g5_0 g8_g5_0 k8_g5_1 g8_g5_1 B8 z8; intro f hf; have u101 : f 101 = (.bool true) := (by rw [← hf]; rfl); clear hf; rintro w' ⟨h0, h1, h2, h3, h4, h5, h6, h7, h8, h9, h10, h11⟩; go_simp; try exact IntWalk.i64_in _ (by omega)
      refine obe_val (by rfl) ?_ ?_
      · clear k8_b2_0 g8_b2_0 k8_b2_1 g8_b2_1 k8_b3_0 g8_b3_0 k8_b3_1 g8_b3_1 k8_g5_0 g8_g5_0 k8_g5_1 g8_g5_1 B8 z8; intro f hf; have u5 : f 5 = (.pointer (some ⟨w3.heap.size, 0, none⟩)) := (by rw [← hf]; rfl); clear hf; rintro w' ⟨h0, h1, h2, h3, h4, h5, h6, h7, h8, h9, h10, h11⟩; go_simp; try exact IntWalk.i64_in _ (by omega)
      refine obe_call (by rfl) ?_ ?_ ?_
      · clear k8_b2_0 g8_b2_0 k8_b2_1 g8_b2_1 k8_b3_0 g8_b3_0 k8_b3_1 g8_b3_1 k8_g5_0 g8_g5_0 k8_g5_1 g8_g5_1 B8 z8; intro f hf; have u103 : f 103 = (.agg #[.int .i64 (-y), .int .i64 x]) := (by rw [← hf]; rfl); clear hf; intro w' _; simp only [execOp, resolve, invoke, rhoF_tmp, rhoF_func, rhoF_const, u103, List.map_toArray, List.map_cons, List.map_nil]; go_simp
      · clear k8_b2_0 g8_b2_0 k8_b2_1 g8_b2_1 k8_b3_0 g8_b3_0 k8_b3_1 g8_b3_1 k8_g5_0 g8_g5_0 k8_g5_1 g8_g5_1 B8 z8; rintro w' ⟨h0, h1, h2, h3, h4, h5, h6, h7, h8, h9, h10, h11⟩; exact n2 _
      refine obe_val (by rfl) ?_ ?_
      · clear k8_b2_0 g8_b2_0 k8_b2_1 g8_b2_1 k8_b3_0 g8_b3_0 k8_b3_1 g8_b3_1 k8_g5_0 g8_g5_0 k8_g5_1 g8_g5_1 B8 z8; intro f hf; have u6 : f 6 = (.int .i64 r) := (by rw [← hf]; rfl); clear hf; rintro w' ⟨h0, h1, h2, h3, h4, h5, h6, h7, h8, h9, h10, h11⟩; go_simp; try exact IntWalk.i64_in _ (by omega)
      refine obe_val (by rfl) ?_ ?_
      · clear k8_b2_0 g8_b2_0 k8_b2_1 g8_b2_1 k8_b3_0 g8_b3_0 k8_b3_1 g8_b3_1 k8_g5_0 g8_g5_0 k8_g5_1 g8_g5_1 B8 z8; intro f hf; have u104 : f 104 = (.int .i64 r) := (by rw [← hf]; rfl); have u105 : f 105 = (.int .i64 r) := (by rw [← hf]; rfl); clear hf; rintro w' ⟨h0, h1, h2, h3, h4, h5, h6, h7, h8, h9, h10, h11⟩; go_simp; try exact IntWalk.i64_in _ (by omega)
      refine obe_val (by rfl) ?_ ?_
      · clear k8_b2_0 g8_b2_0 k8_b2_1 g8_b2_1 k8_b3_0 g8_b3_0 k8_b3_1 g8_b3_1 k8_g5_0 g8_g5_0 k8_g5_1 g8_g5_1 B8 z8; intro f hf; have u102 : f 102 = (.bool true) := (by rw [← hf]; rfl); have u106 : f 106 = (.bool true) := (by rw [← hf]; rfl); clear hf; rintro w' ⟨h0, h1, h2, h3, h4, h5, h6, h7, h8, h9, h10, h11⟩; go_simp; try exact IntWalk.i64_in _ (by omega)
      refine obe_val (by rfl) ?_ ?_
      · clear k8_b2_0 g8_b2_0 k8_b2_1 g8_b2_1 k8_b3_0 g8_b3_0 k8_b3_1 g8_b3_1 k8_g5_0 g8_g5_0 k8_g5_1 g8_g5_1 B8 z8; intro f hf; have u107 : f 107 = (.bool true) := (by rw [← hf]; rfl); clear hf; rintro w' ⟨h0, h1, h2, h3, h4, h5, h6, h7, h8, h9, h10, h11⟩; go_simp; try exact IntWalk.i64_in _ (by omega)
      refine obe_val (by rfl) ?_ ?_
      · clear k8_b2_0 g8_b2_0 k8_b2_1 g8_b2_1 k8_b3_0 g8_b3_0 k8_b3_1 g8_b3_1 k8_g5_0 g8_g5_0 k8_g5_1 g8_g5_1 B8 z8; intro f hf; have u2 : f 2 = (.pointer (some ⟨w.heap.size, 0, none⟩)) := (by rw [← hf]; rfl); clear hf; rintro w' ⟨h0, h1, h2, h3, h4, h5, h6, h7, h8, h9, h10, h11⟩; go_simp; try exact IntWalk.i64_in _ (by omega)
      refine obe_val (by rfl) ?_ ?_
      · clear k8_b2_0 g8_b2_0 k8_b2_1 g8_b2_1 k8_b3_0 g8_b3_0 k8_b3_1 g8_b3_1 k8_g5_0 g8_g5_0 k8_g5_1 g8_g5_1 B8 z8; intro f hf; have u3 : f 3 = (.pointer (some ⟨w.heap.size + 1, 0, none⟩)) := (by rw [← hf]; rfl); clear hf; rintro w' ⟨h0, h1, h2, h3, h4, h5, h6, h7, h8, h9, h10, h11⟩; go_simp; try exact IntWalk.i64_in _ (by omega)
      refine obe_call (by rfl) ?_ ?_ ?_
      · clear k8_b2_0 g8_b2_0 k8_b2_1 g8_b2_1 k8_b3_0 g8_b3_0 k8_b3_1 g8_b3_1 k8_g5_0 g8_g5_0 k8_g5_1 g8_g5_1 B8 z8; intro f hf; have u109 : f 109 = (.agg #[.int .i64 x, .int .i64 y]) := (by rw [← hf]; rfl); have u110 : f 110 = (.agg #[.int .i64 u, .int .i64 v]) := (by rw [← hf]; rfl); clear hf; intro w' _; simp only [execOp, resolve, invoke, rhoF_tmp, rhoF_func, rhoF_const, u109, u110, List.map_toArray, List.map_cons, List.map_nil]; go_simp
      · clear k8_b2_0 g8_b2_0 k8_b2_1 g8_b2_1 k8_b3_0 g8_b3_0 k8_b3_1 g8_b3_1 k8_g5_0 g8_g5_0 k8_g5_1 g8_g5_1 B8 z8; rintro w' ⟨h0, h1, h2, h3, h4, h5, h6, h7, h8, h9, h10, h11⟩; exact l1 _
      refine obe_val (by rfl) ?_ ?_
      · clear k8_b2_0 g8_b2_0 k8_b2_1 g8_b2_1 k8_b3_0 g8_b3_0 k8_b3_1 g8_b3_1 k8_g5_0 g8_g5_0 k8_g5_1 g8_g5_1 B8 z8; intro f hf; have u111 : f 111 = (.bool false) := (by rw [← hf]; rfl); clear hf; rintro w' ⟨h0, h1, h2, h3, h4, h5, h6, h7, h8, h9, h10, h11⟩; go_simp; try exact IntWalk.i64_in _ (by omega)
      refine obe_val (by rfl) ?_ ?_
      · clear k8_b2_0 g8_b2_0 k8_b2_1 g8_b2_1 k8_b3_0 g8_b3_0 k8_b3_1 g8_b3_1 k8_g5_0 g8_g5_0 k8_g5_1 g8_g5_1 B8 z8; intro f hf; have u3 : f 3 = (.pointer (some ⟨w.heap.size + 1, 0, none⟩)) := (by rw [← hf]; rfl); clear hf; rintro w' ⟨h0, h1, h2, h3, h4, h5, h6, h7, h8, h9, h10, h11⟩; go_simp; try exact IntWalk.i64_in _ (by omega)
      refine obe_val (by rfl) ?_ ?_
      · clear k8_b2_0 g8_b2_0 k8_b2_1 g8_b2_1 k8_b3_0 g8_b3_0 k8_b3_1 g8_b3_1 k8_g5_0 g8_g5_0 k8_g5_1 g8_g5_1 B8 z8; intro f hf; have u2 : f 2 = (.pointer (some ⟨w.heap.size, 0, none⟩)) := (by rw [← hf]; rfl); clear hf; rintro w' ⟨h0, h1, h2, h3, h4, h5, h6, h7, h8, h9, h10, h11⟩; go_simp; try exact IntWalk.i64_in _ (by omega)
      refine obe_call (by rfl) ?_ ?_ ?_
      · clear k8_b2_0 g8_b2_0 k8_b2_1 g8_b2_1 k8_b3_0 g8_b3_0 k8_b3_1 g8_b3_1 k8_g5_0 g8_g5_0 k8_g5_1 g8_g5_1 B8 z8; intro f hf; have u113 : f 113 = (.agg #[.int .i64 u, .int .i64 v]) := (by rw [← hf]; rfl); have u114 : f 114 = (.agg #[.int .i64 x, .int .i64 y]) := (by rw [← hf]; rfl); clear hf; intro w' _; simp only [execOp, resolve, invoke, rhoF_tmp, rhoF_func, rhoF_const, u113, u114, List.map_toArray, List.map_cons, List.map_nil]; go_simp
      · clear k8_b2_0 g8_b2_0 k8_b2_1 g8_b2_1 k8_b3_0 g8_b3_0 k8_b3_1 g8_b3_1 k8_g5_0 g8_g5_0 k8_g5_1 g8_g5_1 B8 z8; rintro w' ⟨h0, h1, h2, h3, h4, h5, h6, h7, h8, h9, h10, h11⟩; exact l2 _
      refine obe_val (by rfl) ?_ ?_
      · clear k8_b2_0 g8_b2_0 k8_b2_1 g8_b2_1 k8_b3_0 g8_b3_0 k8_b3_1 g8_b3_1 k8_g5_0 g8_g5_0 k8_g5_1 g8_g5_1 B8 z8; intro f hf; have u112 : f 112 = (.bool false) := (by rw [← hf]; rfl); have u115 : f 115 = (.bool false) := (by rw [← hf]; rfl); clear hf; rintro w' ⟨h0, h1, h2, h3, h4, h5, h6, h7, h8, h9, h10, h11⟩; go_simp; try exact IntWalk.i64_in _ (by omega)
      refine obe_val (by rfl) ?_ ?_
      · clear k8_b2_0 g8_b2_0 k8_b2_1 g8_b2_1 k8_b3_0 g8_b3_0 k8_b3_1 g8_b3_1 k8_g5_0 g8_g5_0 k8_g5_1 g8_g5_1 B8 z8; intro f hf; have u2 : f 2 = (.pointer (some ⟨w.heap.size, 0, none⟩)) := (by rw [← hf]; rfl); clear hf; rintro w' ⟨h0, h1, h2, h3, h4, h5, h6, h7, h8, h9, h10, h11⟩; go_simp; try exact IntWalk.i64_in _ (by omega)
      refine obe_val (by rfl) ?_ ?_
      · clear k8_b2_0 g8_b2_0 k8_b2_1 g8_b2_1 k8_b3_0 g8_b3_0 k8_b3_1 g8_b3_1 k8_g5_0 g8_g5_0 k8_g5_1 g8_g5_1 B8 z8; intro f hf; have u3 : f 3 = (.pointer (some ⟨w.heap.size + 1, 0, none⟩)) := (by rw [← hf]; rfl); clear hf; rintro w' ⟨h0, h1, h2, h3, h4, h5, h6, h7, h8, h9, h10, h11⟩; go_simp; try exact IntWalk.i64_in _ (by omega)
      refine obe_val (by rfl) ?_ ?_
      · clear k8_b2_0 g8_b2_0 k8_b2_1 g8_b2_1 k8_b3_0 g8_b3_0 k8_b3_1 g8_b3_1 k8_g5_0 g8_g5_0 k8_g5_1 g8_g5_1 B8 z8; intro f hf; have u117 : f 117 = (.agg #[.int .i64 x, .int .i64 y]) := (by rw [← hf]; rfl); have u118 : f 118 = (.agg #[.int .i64 u, .int .i64 v]) := (by rw [← hf]; rfl); clear hf; rintro w' ⟨h0, h1, h2, h3, h4, h5, h6, h7, h8, h9, h10, h11⟩; go_simp; try exact IntWalk.i64_in _ (by omega)
      refine obe_val (by rfl) ?_ ?_
      · clear k8_b2_0 g8_b2_0 k8_b2_1 g8_b2_1 k8_b3_0 g8_b3_0 k8_b3_1 g8_b3_1 k8_g5_0 g8_g5_0 k8_g5_1 g8_g5_1 B8 z8; intro f hf; have u116 : f 116 = (.bool false) := (by rw [← hf]; rfl); have u119 : f 119 = (.bool false) := (by rw [← hf]; rfl); clear hf; rintro w' ⟨h0, h1, h2, h3, h4, h5, h6, h7, h8, h9, h10, h11⟩; go_simp; try exact IntWalk.i64_in _ (by omega)
      refine obe_val (by rfl) ?_ ?_
      · clear k8_b2_0 g8_b2_0 k8_b2_1 g8_b2_1 k8_b3_0 g8_b3_0 k8_b3_1 g8_b3_1 k8_g5_0 g8_g5_0 k8_g5_1 g8_g5_1 B8 z8; intro f hf; have u108 : f 108 = (.bool true) := (by rw [← hf]; rfl); have u120 : f 120 = (.bool true) := (by rw [← hf]; rfl); clear hf; rintro w' ⟨h0, h1, h2, h3, h4, h5, h6, h7, h8, h9, h10, h11⟩; go_simp; try exact IntWalk.i64_in _ (by omega)
      refine obe_val (by rfl) ?_ ?_
      · clear k8_b2_0 g8_b2_0 k8_b2_1 g8_b2_1 k8_b3_0 g8_b3_0 k8_b3_1 g8_b3_1 k8_g5_0 g8_g5_0 k8_g5_1 g8_g5_1 B8 z8; intro f hf; have u121 : f 121 = (.bool true) := (by rw [← hf]; rfl); clear hf; rintro w' ⟨h0, h1, h2, h3, h4, h5, h6, h7, h8, h9, h10, h11⟩; go_simp; try exact IntWalk.i64_in _ (by omega)
      refine obe_val (by rfl) ?_ ?_
      · clear k8_b2_0 g8_b2_0 k8_b2_1 g8_b2_1 k8_b3_0 g8_b3_0 k8_b3_1 g8_b3_1 k8_g5_0 g8_g5_0 k8_g5_1 g8_g5_1 B8 z8; intro f hf; have u2 : f 2 = (.pointer (some ⟨w.heap.size, 0, none⟩)) := (by rw [← hf]; rfl); clear hf; rintro w' ⟨h0, h1, h2, h3, h4, h5, h6, h7, h8, h9, h10, h11⟩; go_simp; try exact IntWalk.i64_in _ (by omega)
      refine obe_val (by rfl) ?_ ?_
      · clear k8_b2_0 g8_b2_0 k8_b2_1 g8_b2_1 k8_b3_0 g8_b3_0 k8_b3_1 g8_b3_1 k8_g5_0 g8_g5_0 k8_g5_1 g8_g5_1 B8 z8; intro f hf; have u3 : f 3 = (.pointer (some ⟨w.heap.size + 1, 0, none⟩)) := (by rw [← hf]; rfl); clear hf; rintro w' ⟨h0, h1, h2, h3, h4, h5, h6, h7, h8, h9, h10, h11⟩; go_simp; try exact IntWalk.i64_in _ (by omega)
      refine obe_call (by rfl) ?_ ?_ ?_
      · clear k8_b2_0 g8_b2_0 k8_b2_1 g8_b2_1 k8_b3_0 g8_b3_0 k8_b3_1 g8_b3_1 k8_g5_0 g8_g5_0 k8_g5_1 g8_g5_1 B8 z8; intro f hf; have u123 : f 123 = (.agg #[.int .i64 x, .int .i64 y]) := (by rw [← hf]; rfl); have u124 : f 124 = (.agg #[.int .i64 u, .int .i64 v]) := (by rw [← hf]; rfl); clear hf; intro w' _; simp only [execOp, resolve, invoke, rhoF_tmp, rhoF_func, rhoF_const, u123, u124, List.map_toArray, List.map_cons, List.map_nil]; go_simp
      · clear k8_b2_0 g8_b2_0 k8_b2_1 g8_b2_1 k8_b3_0 g8_b3_0 k8_b3_1 g8_b3_1 k8_g5_0 g8_g5_0 k8_g5_1 g8_g5_1 B8 z8; rintro w' ⟨h0, h1, h2, h3, h4, h5, h6, h7, h8, h9, h10, h11⟩; exact l1 _
      refine obe_val (by rfl) ?_ ?_
      · clear k8_b2_0 g8_b2_0 k8_b2_1 g8_b2_1 k8_b3_0 g8_b3_0 k8_b3_1 g8_b3_1 k8_g5_0 g8_g5_0 k8_g5_1 g8_g5_1 B8 z8; intro f hf; have u125 : f 125 = (.bool false) := (by rw [← hf]; rfl); clear hf; rintro w' ⟨h0, h1, h2, h3, h4, h5, h6, h7, h8, h9, h10, h11⟩; go_simp; try exact IntWalk.i64_in _ (by omega)
      refine obe_skip (by rfl) ?_
      refine obe_skip (by rfl) ?_
      refine obe_skip (by rfl) ?_
      refine obe_val (by rfl) ?_ ?_
      · clear k8_b2_0 g8_b2_0 k8_b2_1 g8_b2_1 k8_b3_0 g8_b3_0 k8_b3_1 g8_b3_1 k8_g5_0 g8_g5_0 k8_g5_1 g8_g5_1 B8 z8; intro f hf; have u126 : f 126 = (.bool false) := (by rw [← hf]; rfl); clear hf; rintro w' ⟨h0, h1, h2, h3, h4, h5, h6, h7, h8, h9, h10, h11⟩; go_simp; try exact IntWalk.i64_in _ (by omega)
      refine obe_val (by rfl) ?_ ?_
      · clear k8_b2_0 g8_b2_0 k8_b2_1 g8_b2_1 k8_b3_0 g8_b3_0 k8_b3_1 g8_b3_1 k8_g5_0 g8_g5_0 k8_g5_1 g8_g5_1 B8 z8; intro f hf; have u130 : f 130 = (.bool false) := (by rw [← hf]; rfl); clear hf; rintro w' ⟨h0, h1, h2, h3, h4, h5, h6, h7, h8, h9, h10, h11⟩; go_simp; try exact IntWalk.i64_in _ (by omega)
      refine obe_val (by rfl) ?_ ?_
      · clear k8_b2_0 g8_b2_0 k8_b2_1 g8_b2_1 k8_b3_0 g8_b3_0 k8_b3_1 g8_b3_1 k8_g5_0 g8_g5_0 k8_g5_1 g8_g5_1 B8 z8; intro f hf; have u122 : f 122 = (.bool true) := (by rw [← hf]; rfl); have u131 : f 131 = (.bool true) := (by rw [← hf]; rfl); clear hf; rintro w' ⟨h0, h1, h2, h3, h4, h5, h6, h7, h8, h9, h10, h11⟩; go_simp; try exact IntWalk.i64_in _ (by omega)
      refine obe_val (by rfl) ?_ ?_
      · clear k8_b2_0 g8_b2_0 k8_b2_1 g8_b2_1 k8_b3_0 g8_b3_0 k8_b3_1 g8_b3_1 k8_g5_0 g8_g5_0 k8_g5_1 g8_g5_1 B8 z8; intro f hf; have u132 : f 132 = (.bool true) := (by rw [← hf]; rfl); clear hf; rintro w' ⟨h0, h1, h2, h3, h4, h5, h6, h7, h8, h9, h10, h11⟩; go_simp; try exact IntWalk.i64_in _ (by omega)
      refine obe_call (by rfl) ?_ ?_ ?_
      · clear k8_b2_0 g8_b2_0 k8_b2_1 g8_b2_1 k8_b3_0 g8_b3_0 k8_b3_1 g8_b3_1 k8_g5_0 g8_g5_0 k8_g5_1 g8_g5_1 B8 z8; intro f hf; clear hf; intro w' _; simp only [execOp, resolve, invoke, rhoF_tmp, rhoF_func, rhoF_const, List.map_toArray, List.map_cons, List.map_nil]; go_simp
      · clear k8_b2_0 g8_b2_0 k8_b2_1 g8_b2_1 k8_b3_0 g8_b3_0 k8_b3_1 g8_b3_1 k8_g5_0 g8_g5_0 k8_g5_1 g8_g5_1 B8 z8; rintro w' ⟨h0, h1, h2, h3, h4, h5, h6, h7, h8, h9, h10, h11⟩; exact example_any _
      refine obe_val (by rfl) ?_ ?_
      · clear k8_b2_0 g8_b2_0 k8_b2_1 g8_b2_1 k8_b3_0 g8_b3_0 k8_b3_1 g8_b3_1 k8_g5_0 g8_g5_0 k8_g5_1 g8_g5_1 B8 z8; intro f hf; have u133 : f 133 = (.bool true) := (by rw [← hf]; rfl); have u134 : f 134 = (.bool true) := (by rw [← hf]; rfl); clear hf; rintro w' ⟨h0, h1, h2, h3, h4, h5, h6, h7, h8, h9, h10, h11⟩; go_simp; try exact IntWalk.i64_in _ (by omega)
      refine obe_val (by rfl) ?_ ?_
      · clear k8_b2_0 g8_b2_0 k8_b2_1 g8_b2_1 k8_b3_0 g8_b3_0 k8_b3_1 g8_b3_1 k8_g5_0 g8_g5_0 k8_g5_1 g8_g5_1 B8 z8; intro f hf; have u135 : f 135 = (.bool true) := (by rw [← hf]; rfl); clear hf; rintro w' ⟨h0, h1, h2, h3, h4, h5, h6, h7, h8, h9, h10, h11⟩; go_simp; try exact IntWalk.i64_in _ (by omega)
      refine obe_nil ?_
      rintro w9 ⟨h0, h1, h2, h3, h4, h5, h6, h7, h8, h9, h10, h11⟩ hb9 hF
      (try simp only [List.nil_append, List.append_nil, List.cons_append] at hF)
      simp only [puts, putD, Act.put, List.setIfInBounds_toArray, List.set_cons_zero, List.set_cons_succ]
      clear hF
      have k9_b2_0 := bcs hb9 k8_b2_0
      have g9_b2_0 := bfs hb9 k8_b2_0 g8_b2_0
      have k9_b2_1 := bcs hb9 k8_b2_1
      have g9_b2_1 := bfs hb9 k8_b2_1 g8_b2_1
      have k9_b3_0 := bcs hb9 k8_b3_0
      have g9_b3_0 := bfs hb9 k8_b3_0 g8_b3_0
      have k9_b3_1 := bcs hb9 k8_b3_1
      have g9_b3_1 := bfs hb9 k8_b3_1 g8_b3_1
      have k9_g5_0 := bcs hb9 k8_g5_0
      have g9_g5_0 := bfs hb9 k8_g5_0 g8_g5_0
      have k9_g5_1 := bcs hb9 k8_g5_1
      have g9_g5_1 := bfs hb9 k8_g5_1 g8_g5_1
      clear h0 h1 h2 h3 h4 h5 h6 h7 h8 h9 h10 h11
      have B9 := bel_step B8 hb9
      have z9 := Nat.le_trans z8 hb9.size
      clear hb9
      (try clear B8)
      (try clear z8)
      (try clear k8_b2_0)
      (try clear g8_b2_0)
      (try clear k8_b2_1)
      (try clear g8_b2_1)
      (try clear k8_b3_0)
      (try clear g8_b3_0)
      (try clear k8_b3_1)
      (try clear g8_b3_1)
      (try clear k8_g5_0)
      (try clear g8_g5_0)
      (try clear k8_g5_1)
      (try clear g8_g5_1)
      (try clear q8_b2)
      (try clear x8_b2)
      (try clear y8_b2)
      (try clear q8_b3)
      (try clear x8_b3)
      (try clear y8_b3)
      (try clear q8_g5)
      (try clear x8_g5)
      (try clear y8_g5)
      have q9_b2 : w.heap.size < w9.heap.size := qlt k9_b2_0
      have x9_b2 : ¬ w.heap.size = w9.heap.size := qne k9_b2_0
      have y9_b2 : ¬ w9.heap.size = w.heap.size := fun h => qne k9_b2_0 h.symm
      have q9_b3 : w.heap.size + 1 < w9.heap.size := qlt k9_b3_0
      have x9_b3 : ¬ w.heap.size + 1 = w9.heap.size := qne k9_b3_0
      have y9_b3 : ¬ w9.heap.size = w.heap.size + 1 := fun h => qne k9_b3_0 h.symm
      have q9_g5 : w3.heap.size < w9.heap.size := qlt k9_g5_0
      have x9_g5 : ¬ w3.heap.size = w9.heap.size := qne k9_g5_0
      have y9_g5 : ¬ w9.heap.size = w3.heap.size := fun h => qne k9_g5_0 h.symm
      unfold wpList
      go_wp2
      go_ret
      refine ⟨rfl, ?_⟩
      repeat (first | with_reducible exact Below.refl _ _ | with_reducible exact B9 | with_reducible apply below_drewN | with_reducible apply Below.drew | (with_reducible refine Below.alloc ?_ (by first | (simp; done) | (simp; omega) | omega) _) | (with_reducible refine Below.setCell ?_ (by first | (simp; done) | (simp; omega) | omega) _))
  · have hV : vB (x + u) (y + v) = false := by
      cases e : vB (x + u) (y + v) with
      | false => rfl
      | true =>
        obtain ⟨k1, k2, _⟩ := vB_of2 _ _ e
        exact absurd ⟨by omega, by omega⟩ hD
    rw [hV] at vs
    rw [show (!(decide (hold (x + u) - u = x) && decide (hold (y + v) - v = y))) = true by
      by_cases k1 : hold (x + u) - u = x
      · have k2 : ¬ hold (y + v) - v = y := fun k2 => hD ⟨k1, k2⟩
        simp [k2]
      · simp [k1]] at np
    clear hD hV hx hy hu hv hnx hny
    obtain ⟨d1, ed1⟩ : ∃ s, hold (x + u) - u = s := ⟨_, rfl⟩
    obtain ⟨d2, ed2⟩ : ∃ s, hold (y + v) - v = s := ⟨_, rfl⟩
    rw [ed1, ed2] at sb np
    obtain ⟨s1, es1⟩ : ∃ s, x + u = s := ⟨_, rfl⟩
    obtain ⟨s2, es2⟩ : ∃ s, y + v = s := ⟨_, rfl⟩
    rw [es1, es2] at ad sb vs
    clear es1 es2 ed1 ed2
    go_enter Try.func7, Try.ntmps7
    go_wp2_with (first | (go_at_call 9; (with_reducible refine (v1 _).mono ?_); rintro e w1 ⟨rfl, hb1⟩; have k1_b2_0 : w1.cell? ⟨w.heap.size, 0, none⟩ = some (.int .i64 x) := bcs hb1 (by go_simp); have g1_b2_0 : w1.frozen? ⟨w.heap.size, 0, none⟩ = false := bfs hb1 (v := .int .i64 x) (by go_simp) (by go_simp); have k1_b2_1 : w1.cell? ⟨w.heap.size, 1, none⟩ = some (.int .i64 y) := bcs hb1 (by go_simp); have g1_b2_1 : w1.frozen? ⟨w.heap.size, 1, none⟩ = false := bfs hb1 (v := .int .i64 y) (by go_simp) (by go_simp); have k1_b3_0 : w1.cell? ⟨w.heap.size + 1, 0, none⟩ = some (.int .i64 u) := bcs hb1 (by go_simp); have g1_b3_0 : w1.frozen? ⟨w.heap.size + 1, 0, none⟩ = false := bfs hb1 (v := .int .i64 u) (by go_simp) (by go_simp); have k1_b3_1 : w1.cell? ⟨w.heap.size + 1, 1, none⟩ = some (.int .i64 v) := bcs hb1 (by go_simp); have g1_b3_1 : w1.frozen? ⟨w.heap.size + 1, 1, none⟩ = false := bfs hb1 (v := .int .i64 v) (by go_simp) (by go_simp); have q1_b2 : w.heap.size < w1.heap.size := qlt k1_b2_0; have x1_b2 : ¬ w.heap.size = w1.heap.size := qne k1_b2_0; have y1_b2 : ¬ w1.heap.size = w.heap.size := fun h => qne k1_b2_0 h.symm; have q1_b3 : w.heap.size + 1 < w1.heap.size := qlt k1_b3_0; have x1_b3 : ¬ w.heap.size + 1 = w1.heap.size := qne k1_b3_0; have y1_b3 : ¬ w1.heap.size = w.heap.size + 1 := fun h => qne k1_b3_0 h.symm; have B1 : Below w.heap.size w w1 := bel_step (by repeat (first | with_reducible exact Below.refl _ _ | fail | with_reducible apply below_drewN | with_reducible apply Below.drew | (with_reducible refine Below.alloc ?_ (by first | (simp; done) | (simp; omega) | omega) _) | (with_reducible refine Below.setCell ?_ (by first | (simp; done) | (simp; omega) | omega) _))) hb1; have z1 : w.heap.size + 1 + 1 ≤ w1.heap.size := Nat.le_trans (by first | with_reducible assumption | (simp; done) | (simp; omega)) hb1.size; clear hb1) | (go_at_call 9; (with_reducible refine (v2 _).mono ?_); rintro e w2 ⟨rfl, hb2⟩; have k2_b2_0 : w2.cell? ⟨w.heap.size, 0, none⟩ = some (.int .i64 x) := bcs hb2 (by go_simp); have g2_b2_0 : w2.frozen? ⟨w.heap.size, 0, none⟩ = false := bfs hb2 (v := .int .i64 x) (by go_simp) (by go_simp); have k2_b2_1 : w2.cell? ⟨w.heap.size, 1, none⟩ = some (.int .i64 y) := bcs hb2 (by go_simp); have g2_b2_1 : w2.frozen? ⟨w.heap.size, 1, none⟩ = false := bfs hb2 (v := .int .i64 y) (by go_simp) (by go_simp); have k2_b3_0 : w2.cell? ⟨w.heap.size + 1, 0, none⟩ = some (.int .i64 u) := bcs hb2 (by go_simp); have g2_b3_0 : w2.frozen? ⟨w.heap.size + 1, 0, none⟩ = false := bfs hb2 (v := .int .i64 u) (by go_simp) (by go_simp); have k2_b3_1 : w2.cell? ⟨w.heap.size + 1, 1, none⟩ = some (.int .i64 v) := bcs hb2 (by go_simp); have g2_b3_1 : w2.frozen? ⟨w.heap.size + 1, 1, none⟩ = false := bfs hb2 (v := .int .i64 v) (by go_simp) (by go_simp); have q2_b2 : w.heap.size < w2.heap.size := qlt k2_b2_0; have x2_b2 : ¬ w.heap.size = w2.heap.size := qne k2_b2_0; have y2_b2 : ¬ w2.heap.size = w.heap.size := fun h => qne k2_b2_0 h.symm; have q2_b3 : w.heap.size + 1 < w2.heap.size := qlt k2_b3_0; have x2_b3 : ¬ w.heap.size + 1 = w2.heap.size := qne k2_b3_0; have y2_b3 : ¬ w2.heap.size = w.heap.size + 1 := fun h => qne k2_b3_0 h.symm; have B2 : Below w.heap.size w w2 := bel_step (by repeat (first | with_reducible exact Below.refl _ _ | with_reducible exact B1 | with_reducible apply below_drewN | with_reducible apply Below.drew | (with_reducible refine Below.alloc ?_ (by first | (simp; done) | (simp; omega) | omega) _) | (with_reducible refine Below.setCell ?_ (by first | (simp; done) | (simp; omega) | omega) _))) hb2; have z2 : w.heap.size + 1 + 1 ≤ w2.heap.size := Nat.le_trans (by first | with_reducible assumption | (simp; done) | (simp; omega)) hb2.size; clear hb2; (try clear k1_b2_0); (try clear g1_b2_0); (try clear k1_b2_1); (try clear g1_b2_1); (try clear k1_b3_0); (try clear g1_b3_0); (try clear k1_b3_1); (try clear g1_b3_1); (try clear B1); (try clear z1); (try clear q1_b2); (try clear x1_b2); (try clear y1_b2); (try clear q1_b3); (try clear x1_b3); (try clear y1_b3)) | (go_at_call 15; (with_reducible refine (t1 _).mono ?_); rintro e w3 ⟨rfl, hb3⟩; have k3_b2_0 : w3.cell? ⟨w.heap.size, 0, none⟩ = some (.int .i64 x) := bcs hb3 (by go_simp); have g3_b2_0 : w3.frozen? ⟨w.heap.size, 0, none⟩ = false := bfs hb3 (v := .int .i64 x) (by go_simp) (by go_simp); have k3_b2_1 : w3.cell? ⟨w.heap.size, 1, none⟩ = some (.int .i64 y) := bcs hb3 (by go_simp); have g3_b2_1 : w3.frozen? ⟨w.heap.size, 1, none⟩ = false := bfs hb3 (v := .int .i64 y) (by go_simp) (by go_simp); have k3_b3_0 : w3.cell? ⟨w.heap.size + 1, 0, none⟩ = some (.int .i64 u) := bcs hb3 (by go_simp); have g3_b3_0 : w3.frozen? ⟨w.heap.size + 1, 0, none⟩ = false := bfs hb3 (v := .int .i64 u) (by go_simp) (by go_simp); have k3_b3_1 : w3.cell? ⟨w.heap.size + 1, 1, none⟩ = some (.int .i64 v) := bcs hb3 (by go_simp); have g3_b3_1 : w3.frozen? ⟨w.heap.size + 1, 1, none⟩ = false := bfs hb3 (v := .int .i64 v) (by go_simp) (by go_simp); have q3_b2 : w.heap.size < w3.heap.size := qlt k3_b2_0; have x3_b2 : ¬ w.heap.size = w3.heap.size := qne k3_b2_0; have y3_b2 : ¬ w3.heap.size = w.heap.size := fun h => qne k3_b2_0 h.symm; have q3_b3 : w.heap.size + 1 < w3.heap.size := qlt k3_b3_0; have x3_b3 : ¬ w.heap.size + 1 = w3.heap.size := qne k3_b3_0; have y3_b3 : ¬ w3.heap.size = w.heap.size + 1 := fun h => qne k3_b3_0 h.symm; have B3 : Below w.heap.size w w3 := bel_step (by repeat (first | with_reducible exact Below.refl _ _ | with_reducible exact B2 | with_reducible apply below_drewN | with_reducible apply Below.drew | (with_reducible refine Below.alloc ?_ (by first | (simp; done) | (simp; omega) | omega) _) | (with_reducible refine Below.setCell ?_ (by first | (simp; done) | (simp; omega) | omega) _))) hb3; have z3 : w.heap.size + 1 + 1 ≤ w3.heap.size := Nat.le_trans (by first | with_reducible assumption | (simp; done) | (simp; omega)) hb3.size; clear hb3; (try clear k2_b2_0); (try clear g2_b2_0); (try clear k2_b2_1); (try clear g2_b2_1); (try clear k2_b3_0); (try clear g2_b3_0); (try clear k2_b3_1); (try clear g2_b3_1); (try clear B2); (try clear z2); (try clear q2_b2); (try clear x2_b2); (try clear y2_b2); (try clear q2_b3); (try clear x2_b3); (try clear y2_b3)))
    refine wp_region_env (fun w' => w'.cell? ⟨w.heap.size, 0, none⟩ = some (.int .i64 x) ∧ w'.frozen? ⟨w.heap.size, 0, none⟩ = false ∧ w'.cell? ⟨w.heap.size, 1, none⟩ = some (.int .i64 y) ∧ w'.frozen? ⟨w.heap.size, 1, none⟩ = false ∧ w'.cell? ⟨w.heap.size + 1, 0, none⟩ = some (.int .i64 u) ∧ w'.frozen? ⟨w.heap.size + 1, 0, none⟩ = false ∧ w'.cell? ⟨w.heap.size + 1, 1, none⟩ = some (.int .i64 v) ∧ w'.frozen? ⟨w.heap.size + 1, 1, none⟩ = false ∧ w'.cell? ⟨w3.heap.size, 0, none⟩ = some (.int .i64 (-y)) ∧ w'.frozen? ⟨w3.heap.size, 0, none⟩ = false ∧ w'.cell? ⟨w3.heap.size, 1, none⟩ = some (.int .i64 x) ∧ w'.frozen? ⟨w3.heap.size, 1, none⟩ = false) (fun W => W.cell? ⟨w.heap.size, 0, none⟩ = some (.int .i64 x) ∧ W.frozen? ⟨w.heap.size, 0, none⟩ = false ∧ W.cell? ⟨w.heap.size, 1, none⟩ = some (.int .i64 y) ∧ W.frozen? ⟨w.heap.size, 1, none⟩ = false ∧ W.cell? ⟨w.heap.size + 1, 0, none⟩ = some (.int .i64 u) ∧ W.frozen? ⟨w.heap.size + 1, 0, none⟩ = false ∧ W.cell? ⟨w.heap.size + 1, 1, none⟩ = some (.int .i64 v) ∧ W.frozen? ⟨w.heap.size + 1, 1, none⟩ = false ∧ W.cell? ⟨w3.heap.size, 0, none⟩ = some (.int .i64 (-y)) ∧ W.frozen? ⟨w3.heap.size, 0, none⟩ = false ∧ W.cell? ⟨w3.heap.size, 1, none⟩ = some (.int .i64 x) ∧ W.frozen? ⟨w3.heap.size, 1, none⟩ = false ∧ Below w.heap.size w W ∧ w.heap.size + 1 + 1 ≤ W.heap.size) 55 136 [.val (.agg #[.int .i64 x, .int .i64 y]), .val (.agg #[.int .i64 u, .int .i64 v]), .call 11 #[.agg #[.int .i64 x, .int .i64 y], .agg #[.int .i64 u, .int .i64 v]] (.agg #[.int .i64 s1, .int .i64 s2]), .val (.agg #[.int .i64 u, .int .i64 v]), .call 13 #[.agg #[.int .i64 s1, .int .i64 s2], .agg #[.int .i64 u, .int .i64 v]] (.agg #[.int .i64 d1, .int .i64 d2]), .val (.agg #[.int .i64 x, .int .i64 y]), .val (.bool true), .val (.bool true), .val (.agg #[.int .i64 x, .int .i64 y]), .val (.agg #[.int .i64 u, .int .i64 v]), .call 11 #[.agg #[.int .i64 x, .int .i64 y], .agg #[.int .i64 u, .int .i64 v]] (.agg #[.int .i64 s1, .int .i64 s2]), .call 9 #[.agg #[.int .i64 s1, .int .i64 s2]] (.bool false), .val (.bool false), .val (.bool false), .val (.agg #[.int .i64 (-y), .int .i64 x]), .call 15 #[.agg #[.int .i64 (-y), .int .i64 x]] (.agg #[.int .i64 (-x), .int .i64 (-y)]), .call 15 #[.agg #[.int .i64 (-x), .int .i64 (-y)]] (.agg #[.int .i64 y, .int .i64 (-x)]), .call 15 #[.agg #[.int .i64 y, .int .i64 (-x)]] (.agg #[.int .i64 x, .int .i64 y]), .val (.agg #[.int .i64 x, .int .i64 y]), .val (.bool false), .val (.bool false), .val (.bool false), .val (.agg #[.int .i64 x, .int .i64 y]), .val (.agg #[.int .i64 u, .int .i64 v]), .call 19 #[.agg #[.int .i64 x, .int .i64 y], .agg #[.int .i64 u, .int .i64 v]] (.int .i64 C), .val (.agg #[.int .i64 (-y), .int .i64 x]), .val (.agg #[.int .i64 u, .int .i64 v]), .call 17 #[.agg #[.int .i64 (-y), .int .i64 x], .agg #[.int .i64 u, .int .i64 v]] (.int .i64 C), .val (.bool false), .val (.bool false), .val (.bool false), .val (.agg #[.int .i64 x, .int .i64 y]), .val (.agg #[.int .i64 u, .int .i64 v]), .call 19 #[.agg #[.int .i64 x, .int .i64 y], .agg #[.int .i64 u, .int .i64 v]] (.int .i64 C), .val (.agg #[.int .i64 u, .int .i64 v]), .val (.agg #[.int .i64 x, .int .i64 y]), .call 19 #[.agg #[.int .i64 u, .int .i64 v], .agg #[.int .i64 x, .int .i64 y]] (.int .i64 (-C)), .val (.int .i64 C), .val (.bool false), .val (.bool false), .val (.bool false), .val (.agg #[.int .i64 x, .int .i64 y]), .val (.agg #[.int .i64 u, .int .i64 v]), .call 17 #[.agg #[.int .i64 x, .int .i64 y], .agg #[.int .i64 u, .int .i64 v]] (.int .i64 E), .val (.agg #[.int .i64 u, .int .i64 v]), .val (.agg #[.int .i64 x, .int .i64 y]), .call 17 #[.agg #[.int .i64 u, .int .i64 v], .agg #[.int .i64 x, .int .i64 y]] (.int .i64 E), .val (.bool false), .val (.bool false), .val (.bool false), .val (.agg #[.int .i64 x, .int .i64 y]), .val (.agg #[.int .i64 (-y), .int .i64 x]), .call 17 #[.agg #[.int .i64 x, .int .i64 y], .agg #[.int .i64 (-y), .int .i64 x]] (.int .i64 0), .val (.bool false), .val (.bool false)] (by kernel_rfl) (by kernel_rfl) rfl (by kernel_rfl) (by rintro w1 w2 ⟨h0, h1, h2, h3, h4, h5, h6, h7, h8, h9, h10, h11⟩ hb; exact ⟨bcs hb h0, bfs hb h0 h1, bcs hb h2, bfs hb h2 h3, bcs hb h4, bfs hb h4 h5, bcs hb h6, bfs hb h6 h7, bcs hb h8, bfs hb h8 h9, bcs hb h10, bfs hb h10 h11⟩) ⟨by first | with_reducible assumption | go_simp, by first | with_reducible assumption | go_simp, by first | with_reducible assumption | go_simp, by first | with_reducible assumption | go_simp, by first | with_reducible assumption | go_simp, by first | with_reducible assumption | go_simp, by first | with_reducible assumption | go_simp, by first | with_reducible assumption | go_simp, by first | with_reducible assumption | go_simp, by first | with_reducible assumption | go_simp, by first | with_reducible assumption | go_simp, by first | with_reducible assumption | go_simp, by repeat (first | with_reducible exact Below.refl _ _ | with_reducible exact B3 | with_reducible apply below_drewN | with_reducible apply Below.drew | (with_reducible refine Below.alloc ?_ (by first | (simp; done) | (simp; omega) | omega) _) | (with_reducible refine Below.setCell ?_ (by first | (simp; done) | (simp; omega) | omega) _)), by first | with_reducible assumption | (simp; done) | (simp; omega)⟩ ?_ ?_
    · rintro W ⟨k4_b2_0, g4_b2_0, k4_b2_1, g4_b2_1, k4_b3_0, g4_b3_0, k4_b3_1, g4_b3_1, k4_g5_0, g4_g5_0, k4_g5_1, g4_g5_1, B4, z4⟩; exact ⟨k4_b2_0, g4_b2_0, k4_b2_1, g4_b2_1, k4_b3_0, g4_b3_0, k4_b3_1, g4_b3_1, k4_g5_0, g4_g5_0, k4_g5_1, g4_g5_1⟩
    (try clear B3)
    (try clear z3)
    (try clear k3_b2_0)
    (try clear g3_b2_0)
    (try clear k3_b2_1)
    (try clear g3_b2_1)
    (try clear k3_b3_0)
    (try clear g3_b3_0)
    (try clear k3_b3_1)
    (try clear g3_b3_1)
    (try clear k3_g5_0)
    (try clear g3_g5_0)
    (try clear k3_g5_1)
    (try clear g3_g5_1)
    (try clear q3_b2)
    (try clear x3_b2)
    (try clear y3_b2)
    (try clear q3_b3)
    (try clear x3_b3)
    (try clear y3_b3)
    (try clear q3_g5)
    (try clear x3_g5)
    (try clear y3_g5)
    rintro w4 ⟨k4_b2_0, g4_b2_0, k4_b2_1, g4_b2_1, k4_b3_0, g4_b3_0, k4_b3_1, g4_b3_1, k4_g5_0, g4_g5_0, k4_g5_1, g4_g5_1, B4, z4⟩ gg
    simp only [List.take_succ_cons, List.take_zero, List.drop_succ_cons, List.drop_zero, List.cons_append, List.nil_append, List.append_nil]
    refine obe_val (by rfl) ?_ ?_
    · clear k4_b2_0 g4_b2_0 k4_b2_1 g4_b2_1 k4_b3_0 g4_b3_0 k4_b3_1 g4_b3_1 k4_g5_0 g4_g5_0 k4_g5_1 g4_g5_1 B4 z4; intro f hf; have u2 : f 2 = (.pointer (some ⟨w.heap.size, 0, none⟩)) := (by rw [← hf]; rfl); clear hf; rintro w' ⟨h0, h1, h2, h3, h4, h5, h6, h7, h8, h9, h10, h11⟩; go_simp; try exact IntWalk.i64_in _ (by omega)
    refine obe_val (by rfl) ?_ ?_
    · clear k4_b2_0 g4_b2_0 k4_b2_1 g4_b2_1 k4_b3_0 g4_b3_0 k4_b3_1 g4_b3_1 k4_g5_0 g4_g5_0 k4_g5_1 g4_g5_1 B4 z4; intro f hf; have u3 : f 3 = (.pointer (some ⟨w.heap.size + 1, 0, none⟩)) := (by rw [← hf]; rfl); clear hf; rintro w' ⟨h0, h1, h2, h3, h4, h5, h6, h7, h8, h9, h10, h11⟩; go_simp; try exact IntWalk.i64_in _ (by omega)
    refine obe_call (by rfl) ?_ ?_ ?_
    · clear k4_b2_0 g4_b2_0 k4_b2_1 g4_b2_1 k4_b3_0 g4_b3_0 k4_b3_1 g4_b3_1 k4_g5_0 g4_g5_0 k4_g5_1 g4_g5_1 B4 z4; intro f hf; have u19 : f 19 = (.agg #[.int .i64 x, .int .i64 y]) := (by rw [← hf]; rfl); have u20 : f 20 = (.agg #[.int .i64 u, .int .i64 v]) := (by rw [← hf]; rfl); clear hf; intro w' _; simp only [execOp, resolve, invoke, rhoF_tmp, rhoF_func, rhoF_const, u19, u20, List.map_toArray, List.map_cons, List.map_nil]; go_simp
    · clear k4_b2_0 g4_b2_0 k4_b2_1 g4_b2_1 k4_b3_0 g4_b3_0 k4_b3_1 g4_b3_1 k4_g5_0 g4_g5_0 k4_g5_1 g4_g5_1 B4 z4; rintro w' ⟨h0, h1, h2, h3, h4, h5, h6, h7, h8, h9, h10, h11⟩; exact ad _
    refine obe_val (by rfl) ?_ ?_
    · clear k4_b2_0 g4_b2_0 k4_b2_1 g4_b2_1 k4_b3_0 g4_b3_0 k4_b3_1 g4_b3_1 k4_g5_0 g4_g5_0 k4_g5_1 g4_g5_1 B4 z4; intro f hf; have u3 : f 3 = (.pointer (some ⟨w.heap.size + 1, 0, none⟩)) := (by rw [← hf]; rfl); clear hf; rintro w' ⟨h0, h1, h2, h3, h4, h5, h6, h7, h8, h9, h10, h11⟩; go_simp; try exact IntWalk.i64_in _ (by omega)
    refine obe_call (by rfl) ?_ ?_ ?_
    · clear k4_b2_0 g4_b2_0 k4_b2_1 g4_b2_1 k4_b3_0 g4_b3_0 k4_b3_1 g4_b3_1 k4_g5_0 g4_g5_0 k4_g5_1 g4_g5_1 B4 z4; intro f hf; have u21 : f 21 = (.agg #[.int .i64 s1, .int .i64 s2]) := (by rw [← hf]; rfl); have u22 : f 22 = (.agg #[.int .i64 u, .int .i64 v]) := (by rw [← hf]; rfl); clear hf; intro w' _; simp only [execOp, resolve, invoke, rhoF_tmp, rhoF_func, rhoF_const, u21, u22, List.map_toArray, List.map_cons, List.map_nil]; go_simp
    · clear k4_b2_0 g4_b2_0 k4_b2_1 g4_b2_1 k4_b3_0 g4_b3_0 k4_b3_1 g4_b3_1 k4_g5_0 g4_g5_0 k4_g5_1 g4_g5_1 B4 z4; rintro w' ⟨h0, h1, h2, h3, h4, h5, h6, h7, h8, h9, h10, h11⟩; exact sb _
    refine obe_val (by rfl) ?_ ?_
    · clear k4_b2_0 g4_b2_0 k4_b2_1 g4_b2_1 k4_b3_0 g4_b3_0 k4_b3_1 g4_b3_1 k4_g5_0 g4_g5_0 k4_g5_1 g4_g5_1 B4 z4; intro f hf; have u2 : f 2 = (.pointer (some ⟨w.heap.size, 0, none⟩)) := (by rw [← hf]; rfl); clear hf; rintro w' ⟨h0, h1, h2, h3, h4, h5, h6, h7, h8, h9, h10, h11⟩; go_simp; try exact IntWalk.i64_in _ (by omega)
    refine obe_val (by rfl) ?_ ?_
    · clear k4_b2_0 g4_b2_0 k4_b2_1 g4_b2_1 k4_b3_0 g4_b3_0 k4_b3_1 g4_b3_1 k4_g5_0 g4_g5_0 k4_g5_1 g4_g5_1 B4 z4; intro f hf; have u23 : f 23 = (.agg #[.int .i64 d1, .int .i64 d2]) := (by rw [← hf]; rfl); have u24 : f 24 = (.agg #[.int .i64 x, .int .i64 y]) := (by rw [← hf]; rfl); clear hf; rintro w' ⟨h0, h1, h2, h3, h4, h5, h6, h7, h8, h9, h10, h11⟩; go_simp; try exact IntWalk.i64_in _ (by omega)
    refine obe_val (by rfl) ?_ ?_
    · clear k4_b2_0 g4_b2_0 k4_b2_1 g4_b2_1 k4_b3_0 g4_b3_0 k4_b3_1 g4_b3_1 k4_g5_0 g4_g5_0 k4_g5_1 g4_g5_1 B4 z4; intro f hf; have u25 : f 25 = (.bool true) := (by rw [← hf]; rfl); clear hf; rintro w' ⟨h0, h1, h2, h3, h4, h5, h6, h7, h8, h9, h10, h11⟩; go_simp; try exact IntWalk.i64_in _ (by omega)
    refine obe_val (by rfl) ?_ ?_
    · clear k4_b2_0 g4_b2_0 k4_b2_1 g4_b2_1 k4_b3_0 g4_b3_0 k4_b3_1 g4_b3_1 k4_g5_0 g4_g5_0 k4_g5_1 g4_g5_1 B4 z4; intro f hf; have u2 : f 2 = (.pointer (some ⟨w.heap.size, 0, none⟩)) := (by rw [← hf]; rfl); clear hf; rintro w' ⟨h0, h1, h2, h3, h4, h5, h6, h7, h8, h9, h10, h11⟩; go_simp; try exact IntWalk.i64_in _ (by omega)
    refine obe_val (by rfl) ?_ ?_
    · clear k4_b2_0 g4_b2_0 k4_b2_1 g4_b2_1 k4_b3_0 g4_b3_0 k4_b3_1 g4_b3_1 k4_g5_0 g4_g5_0 k4_g5_1 g4_g5_1 B4 z4; intro f hf; have u3 : f 3 = (.pointer (some ⟨w.heap.size + 1, 0, none⟩)) := (by rw [← hf]; rfl); clear hf; rintro w' ⟨h0, h1, h2, h3, h4, h5, h6, h7, h8, h9, h10, h11⟩; go_simp; try exact IntWalk.i64_in _ (by omega)
    refine obe_call (by rfl) ?_ ?_ ?_
    · clear k4_b2_0 g4_b2_0 k4_b2_1 g4_b2_1 k4_b3_0 g4_b3_0 k4_b3_1 g4_b3_1 k4_g5_0 g4_g5_0 k4_g5_1 g4_g5_1 B4 z4; intro f hf; have u27 : f 27 = (.agg #[.int .i64 x, .int .i64 y]) := (by rw [← hf]; rfl); have u28 : f 28 = (.agg #[.int .i64 u, .int .i64 v]) := (by rw [← hf]; rfl); clear hf; intro w' _; simp only [execOp, resolve, invoke, rhoF_tmp, rhoF_func, rhoF_const, u27, u28, List.map_toArray, List.map_cons, List.map_nil]; go_simp
    · clear k4_b2_0 g4_b2_0 k4_b2_1 g4_b2_1 k4_b3_0 g4_b3_0 k4_b3_1 g4_b3_1 k4_g5_0 g4_g5_0 k4_g5_1 g4_g5_1 B4 z4; rintro w' ⟨h0, h1, h2, h3, h4, h5, h6, h7, h8, h9, h10, h11⟩; exact ad _
    refine obe_call (by rfl) ?_ ?_ ?_
    · clear k4_b2_0 g4_b2_0 k4_b2_1 g4_b2_1 k4_b3_0 g4_b3_0 k4_b3_1 g4_b3_1 k4_g5_0 g4_g5_0 k4_g5_1 g4_g5_1 B4 z4; intro f hf; have u29 : f 29 = (.agg #[.int .i64 s1, .int .i64 s2]) := (by rw [← hf]; rfl); clear hf; intro w' _; simp only [execOp, resolve, invoke, rhoF_tmp, rhoF_func, rhoF_const, u29, List.map_toArray, List.map_cons, List.map_nil]; go_simp
    · clear k4_b2_0 g4_b2_0 k4_b2_1 g4_b2_1 k4_b3_0 g4_b3_0 k4_b3_1 g4_b3_1 k4_g5_0 g4_g5_0 k4_g5_1 g4_g5_1 B4 z4; rintro w' ⟨h0, h1, h2, h3, h4, h5, h6, h7, h8, h9, h10, h11⟩; exact vs _
    refine obe_val (by rfl) ?_ ?_
    · clear k4_b2_0 g4_b2_0 k4_b2_1 g4_b2_1 k4_b3_0 g4_b3_0 k4_b3_1 g4_b3_1 k4_g5_0 g4_g5_0 k4_g5_1 g4_g5_1 B4 z4; intro f hf; have u26 : f 26 = (.bool true) := (by rw [← hf]; rfl); have u30 : f 30 = (.bool false) := (by rw [← hf]; rfl); clear hf; rintro w' ⟨h0, h1, h2, h3, h4, h5, h6, h7, h8, h9, h10, h11⟩; go_simp; try exact IntWalk.i64_in _ (by omega)
    refine obe_val (by rfl) ?_ ?_
    · clear k4_b2_0 g4_b2_0 k4_b2_1 g4_b2_1 k4_b3_0 g4_b3_0 k4_b3_1 g4_b3_1 k4_g5_0 g4_g5_0 k4_g5_1 g4_g5_1 B4 z4; intro f hf; have u31 : f 31 = (.bool false) := (by rw [← hf]; rfl); clear hf; rintro w' ⟨h0, h1, h2, h3, h4, h5, h6, h7, h8, h9, h10, h11⟩; go_simp; try exact IntWalk.i64_in _ (by omega)
    refine obe_val (by rfl) ?_ ?_
    · clear k4_b2_0 g4_b2_0 k4_b2_1 g4_b2_1 k4_b3_0 g4_b3_0 k4_b3_1 g4_b3_1 k4_g5_0 g4_g5_0 k4_g5_1 g4_g5_1 B4 z4; intro f hf; have u5 : f 5 = (.pointer (some ⟨w3.heap.size, 0, none⟩)) := (by rw [← hf]; rfl); clear hf; rintro w' ⟨h0, h1, h2, h3, h4, h5, h6, h7, h8, h9, h10, h11⟩; go_simp; try exact IntWalk.i64_in _ (by omega)
    refine obe_call (by rfl) ?_ ?_ ?_
    · clear k4_b2_0 g4_b2_0 k4_b2_1 g4_b2_1 k4_b3_0 g4_b3_0 k4_b3_1 g4_b3_1 k4_g5_0 g4_g5_0 k4_g5_1 g4_g5_1 B4 z4; intro f hf; have u33 : f 33 = (.agg #[.int .i64 (-y), .int .i64 x]) := (by rw [← hf]; rfl); clear hf; intro w' _; simp only [execOp, resolve, invoke, rhoF_tmp, rhoF_func, rhoF_const, u33, List.map_toArray, List.map_cons, List.map_nil]; go_simp
    · clear k4_b2_0 g4_b2_0 k4_b2_1 g4_b2_1 k4_b3_0 g4_b3_0 k4_b3_1 g4_b3_1 k4_g5_0 g4_g5_0 k4_g5_1 g4_g5_1 B4 z4; rintro w' ⟨h0, h1, h2, h3, h4, h5, h6, h7, h8, h9, h10, h11⟩; exact t2 _
    refine obe_call (by rfl) ?_ ?_ ?_
    · clear k4_b2_0 g4_b2_0 k4_b2_1 g4_b2_1 k4_b3_0 g4_b3_0 k4_b3_1 g4_b3_1 k4_g5_0 g4_g5_0 k4_g5_1 g4_g5_1 B4 z4; intro f hf; have u34 : f 34 = (.agg #[.int .i64 (-x), .int .i64 (-y)]) := (by rw [← hf]; rfl); clear hf; intro w' _; simp only [execOp, resolve, invoke, rhoF_tmp, rhoF_func, rhoF_const, u34, List.map_toArray, List.map_cons, List.map_nil]; go_simp
    · clear k4_b2_0 g4_b2_0 k4_b2_1 g4_b2_1 k4_b3_0 g4_b3_0 k4_b3_1 g4_b3_1 k4_g5_0 g4_g5_0 k4_g5_1 g4_g5_1 B4 z4; rintro w' ⟨h0, h1, h2, h3, h4, h5, h6, h7, h8, h9, h10, h11⟩; exact t3 _
    refine obe_call (by rfl) ?_ ?_ ?_
    · clear k4_b2_0 g4_b2_0 k4_b2_1 g4_b2_1 k4_b3_0 g4_b3_0 k4_b3_1 g4_b3_1 k4_g5_0 g4_g5_0 k4_g5_1 g4_g5_1 B4 z4; intro f hf; have u35 : f 35 = (.agg #[.int .i64 y, .int .i64 (-x)]) := (by rw [← hf]; rfl); clear hf; intro w' _; simp only [execOp, resolve, invoke, rhoF_tmp, rhoF_func, rhoF_const, u35, List.map_toArray, List.map_cons, List.map_nil]; go_simp
    · clear k4_b2_0 g4_b2_0 k4_b2_1 g4_b2_1 k4_b3_0 g4_b3_0 k4_b3_1 g4_b3_1 k4_g5_0 g4_g5_0 k4_g5_1 g4_g5_1 B4 z4; rintro w' ⟨h0, h1, h2, h3, h4, h5, h6, h7, h8, h9, h10, h11⟩; exact t4 _
    refine obe_val (by rfl) ?_ ?_
    · clear k4_b2_0 g4_b2_0 k4_b2_1 g4_b2_1 k4_b3_0 g4_b3_0 k4_b3_1 g4_b3_1 k4_g5_0 g4_g5_0 k4_g5_1 g4_g5_1 B4 z4; intro f hf; have u2 : f 2 = (.pointer (some ⟨w.heap.size, 0, none⟩)) := (by rw [← hf]; rfl); clear hf; rintro w' ⟨h0, h1, h2, h3, h4, h5, h6, h7, h8, h9, h10, h11⟩; go_simp; try exact IntWalk.i64_in _ (by omega)
    refine obe_val (by rfl) ?_ ?_
    · clear k4_b2_0 g4_b2_0 k4_b2_1 g4_b2_1 k4_b3_0 g4_b3_0 k4_b3_1 g4_b3_1 k4_g5_0 g4_g5_0 k4_g5_1 g4_g5_1 B4 z4; intro f hf; have u36 : f 36 = (.agg #[.int .i64 x, .int .i64 y]) := (by rw [← hf]; rfl); have u37 : f 37 = (.agg #[.int .i64 x, .int .i64 y]) := (by rw [← hf]; rfl); clear hf; rintro w' ⟨h0, h1, h2, h3, h4, h5, h6, h7, h8, h9, h10, h11⟩; go_simp; try exact IntWalk.i64_in _ (by omega)
    refine obe_val (by rfl) ?_ ?_
    · clear k4_b2_0 g4_b2_0 k4_b2_1 g4_b2_1 k4_b3_0 g4_b3_0 k4_b3_1 g4_b3_1 k4_g5_0 g4_g5_0 k4_g5_1 g4_g5_1 B4 z4; intro f hf; have u32 : f 32 = (.bool false) := (by rw [← hf]; rfl); have u38 : f 38 = (.bool false) := (by rw [← hf]; rfl); clear hf; rintro w' ⟨h0, h1, h2, h3, h4, h5, h6, h7, h8, h9, h10, h11⟩; go_simp; try exact IntWalk.i64_in _ (by omega)
    refine obe_val (by rfl) ?_ ?_
    · clear k4_b2_0 g4_b2_0 k4_b2_1 g4_b2_1 k4_b3_0 g4_b3_0 k4_b3_1 g4_b3_1 k4_g5_0 g4_g5_0 k4_g5_1 g4_g5_1 B4 z4; intro f hf; have u39 : f 39 = (.bool false) := (by rw [← hf]; rfl); clear hf; rintro w' ⟨h0, h1, h2, h3, h4, h5, h6, h7, h8, h9, h10, h11⟩; go_simp; try exact IntWalk.i64_in _ (by omega)
    refine obe_val (by rfl) ?_ ?_
    · clear k4_b2_0 g4_b2_0 k4_b2_1 g4_b2_1 k4_b3_0 g4_b3_0 k4_b3_1 g4_b3_1 k4_g5_0 g4_g5_0 k4_g5_1 g4_g5_1 B4 z4; intro f hf; have u2 : f 2 = (.pointer (some ⟨w.heap.size, 0, none⟩)) := (by rw [← hf]; rfl); clear hf; rintro w' ⟨h0, h1, h2, h3, h4, h5, h6, h7, h8, h9, h10, h11⟩; go_simp; try exact IntWalk.i64_in _ (by omega)
    refine obe_val (by rfl) ?_ ?_
    · clear k4_b2_0 g4_b2_0 k4_b2_1 g4_b2_1 k4_b3_0 g4_b3_0 k4_b3_1 g4_b3_1 k4_g5_0 g4_g5_0 k4_g5_1 g4_g5_1 B4 z4; intro f hf; have u3 : f 3 = (.pointer (some ⟨w.heap.size + 1, 0, none⟩)) := (by rw [← hf]; rfl); clear hf; rintro w' ⟨h0, h1, h2, h3, h4, h5, h6, h7, h8, h9, h10, h11⟩; go_simp; try exact IntWalk.i64_in _ (by omega)
    refine obe_call (by rfl) ?_ ?_ ?_
    · clear k4_b2_0 g4_b2_0 k4_b2_1 g4_b2_1 k4_b3_0 g4_b3_0 k4_b3_1 g4_b3_1 k4_g5_0 g4_g5_0 k4_g5_1 g4_g5_1 B4 z4; intro f hf; have u41 : f 41 = (.agg #[.int .i64 x, .int .i64 y]) := (by rw [← hf]; rfl); have u42 : f 42 = (.agg #[.int .i64 u, .int .i64 v]) := (by rw [← hf]; rfl); clear hf; intro w' _; simp only [execOp, resolve, invoke, rhoF_tmp, rhoF_func, rhoF_const, u41, u42, List.map_toArray, List.map_cons, List.map_nil]; go_simp
    · clear k4_b2_0 g4_b2_0 k4_b2_1 g4_b2_1 k4_b3_0 g4_b3_0 k4_b3_1 g4_b3_1 k4_g5_0 g4_g5_0 k4_g5_1 g4_g5_1 B4 z4; rintro w' ⟨h0, h1, h2, h3, h4, h5, h6, h7, h8, h9, h10, h11⟩; exact c1 _
    refine obe_val (by rfl) ?_ ?_
    · clear k4_b2_0 g4_b2_0 k4_b2_1 g4_b2_1 k4_b3_0 g4_b3_0 k4_b3_1 g4_b3_1 k4_g5_0 g4_g5_0 k4_g5_1 g4_g5_1 B4 z4; intro f hf; have u5 : f 5 = (.pointer (some ⟨w3.heap.size, 0, none⟩)) := (by rw [← hf]; rfl); clear hf; rintro w' ⟨h0, h1, h2, h3, h4, h5, h6, h7, h8, h9, h10, h11⟩; go_simp; try exact IntWalk.i64_in _ (by omega)
    refine obe_val (by rfl) ?_ ?_
    · clear k4_b2_0 g4_b2_0 k4_b2_1 g4_b2_1 k4_b3_0 g4_b3_0 k4_b3_1 g4_b3_1 k4_g5_0 g4_g5_0 k4_g5_1 g4_g5_1 B4 z4; intro f hf; have u3 : f 3 = (.pointer (some ⟨w.heap.size + 1, 0, none⟩)) := (by rw [← hf]; rfl); clear hf; rintro w' ⟨h0, h1, h2, h3, h4, h5, h6, h7, h8, h9, h10, h11⟩; go_simp; try exact IntWalk.i64_in _ (by omega)
    refine obe_call (by rfl) ?_ ?_ ?_
    · clear k4_b2_0 g4_b2_0 k4_b2_1 g4_b2_1 k4_b3_0 g4_b3_0 k4_b3_1 g4_b3_1 k4_g5_0 g4_g5_0 k4_g5_1 g4_g5_1 B4 z4; intro f hf; have u44 : f 44 = (.agg #[.int .i64 (-y), .int .i64 x]) := (by rw [← hf]; rfl); have u45 : f 45 = (.agg #[.int .i64 u, .int .i64 v]) := (by rw [← hf]; rfl); clear hf; intro w' _; simp only [execOp, resolve, invoke, rhoF_tmp, rhoF_func, rhoF_const, u44, u45, List.map_toArray, List.map_cons, List.map_nil]; go_simp
    · clear k4_b2_0 g4_b2_0 k4_b2_1 g4_b2_1 k4_b3_0 g4_b3_0 k4_b3_1 g4_b3_1 k4_g5_0 g4_g5_0 k4_g5_1 g4_g5_1 B4 z4; rintro w' ⟨h0, h1, h2, h3, h4, h5, h6, h7, h8, h9, h10, h11⟩; exact c2 _
    refine obe_val (by rfl) ?_ ?_
    · clear k4_b2_0 g4_b2_0 k4_b2_1 g4_b2_1 k4_b3_0 g4_b3_0 k4_b3_1 g4_b3_1 k4_g5_0 g4_g5_0 k4_g5_1 g4_g5_1 B4 z4; intro f hf; have u43 : f 43 = (.int .i64 C) := (by rw [← hf]; rfl); have u46 : f 46 = (.int .i64 C) := (by rw [← hf]; rfl); clear hf; rintro w' ⟨h0, h1, h2, h3, h4, h5, h6, h7, h8, h9, h10, h11⟩; go_simp; try exact IntWalk.i64_in _ (by omega)
    refine obe_val (by rfl) ?_ ?_
    · clear k4_b2_0 g4_b2_0 k4_b2_1 g4_b2_1 k4_b3_0 g4_b3_0 k4_b3_1 g4_b3_1 k4_g5_0 g4_g5_0 k4_g5_1 g4_g5_1 B4 z4; intro f hf; have u40 : f 40 = (.bool false) := (by rw [← hf]; rfl); have u47 : f 47 = (.bool false) := (by rw [← hf]; rfl); clear hf; rintro w' ⟨h0, h1, h2, h3, h4, h5, h6, h7, h8, h9, h10, h11⟩; go_simp; try exact IntWalk.i64_in _ (by omega)
    refine obe_val (by rfl) ?_ ?_
    · clear k4_b2_0 g4_b2_0 k4_b2_1 g4_b2_1 k4_b3_0 g4_b3_0 k4_b3_1 g4_b3_1 k4_g5_0 g4_g5_0 k4_g5_1 g4_g5_1 B4 z4; intro f hf; have u48 : f 48 = (.bool false) := (by rw [← hf]; rfl); clear hf; rintro w' ⟨h0, h1, h2, h3, h4, h5, h6, h7, h8, h9, h10, h11⟩; go_simp; try exact IntWalk.i64_in _ (by omega)
    refine obe_val (by rfl) ?_ ?_
    · clear k4_b2_0 g4_b2_0 k4_b2_1 g4_b2_1 k4_b3_0 g4_b3_0 k4_b3_1 g4_b3_1 k4_g5_0 g4_g5_0 k4_g5_1 g4_g5_1 B4 z4; intro f hf; have u2 : f 2 = (.pointer (some ⟨w.heap.size, 0, none⟩)) := (by rw [← hf]; rfl); clear hf; rintro w' ⟨h0, h1, h2, h3, h4, h5, h6, h7, h8, h9, h10, h11⟩; go_simp; try exact IntWalk.i64_in _ (by omega)
    refine obe_val (by rfl) ?_ ?_
    · clear k4_b2_0 g4_b2_0 k4_b2_1 g4_b2_1 k4_b3_0 g4_b3_0 k4_b3_1 g4_b3_1 k4_g5_0 g4_g5_0 k4_g5_1 g4_g5_1 B4 z4; intro f hf; have u3 : f 3 = (.pointer (some ⟨w.heap.size + 1, 0, none⟩)) := (by rw [← hf]; rfl); clear hf; rintro w' ⟨h0, h1, h2, h3, h4, h5, h6, h7, h8, h9, h10, h11⟩; go_simp; try exact IntWalk.i64_in _ (by omega)
    refine obe_call (by rfl) ?_ ?_ ?_
    · clear k4_b2_0 g4_b2_0 k4_b2_1 g4_b2_1 k4_b3_0 g4_b3_0 k4_b3_1 g4_b3_1 k4_g5_0 g4_g5_0 k4_g5_1 g4_g5_1 B4 z4; intro f hf; have u50 : f 50 = (.agg #[.int .i64 x, .int .i64 y]) := (by rw [← hf]; rfl); have u51 : f 51 = (.agg #[.int .i64 u, .int .i64 v]) := (by rw [← hf]; rfl); clear hf; intro w' _; simp only [execOp, resolve, invoke, rhoF_tmp, rhoF_func, rhoF_const, u50, u51, List.map_toArray, List.map_cons, List.map_nil]; go_simp
    · clear k4_b2_0 g4_b2_0 k4_b2_1 g4_b2_1 k4_b3_0 g4_b3_0 k4_b3_1 g4_b3_1 k4_g5_0 g4_g5_0 k4_g5_1 g4_g5_1 B4 z4; rintro w' ⟨h0, h1, h2, h3, h4, h5, h6, h7, h8, h9, h10, h11⟩; exact c1 _
    refine obe_val (by rfl) ?_ ?_
    · clear k4_b2_0 g4_b2_0 k4_b2_1 g4_b2_1 k4_b3_0 g4_b3_0 k4_b3_1 g4_b3_1 k4_g5_0 g4_g5_0 k4_g5_1 g4_g5_1 B4 z4; intro f hf; have u3 : f 3 = (.pointer (some ⟨w.heap.size + 1, 0, none⟩)) := (by rw [← hf]; rfl); clear hf; rintro w' ⟨h0, h1, h2, h3, h4, h5, h6, h7, h8, h9, h10, h11⟩; go_simp; try exact IntWalk.i64_in _ (by omega)
    refine obe_val (by rfl) ?_ ?_
    · clear k4_b2_0 g4_b2_0 k4_b2_1 g4_b2_1 k4_b3_0 g4_b3_0 k4_b3_1 g4_b3_1 k4_g5_0 g4_g5_0 k4_g5_1 g4_g5_1 B4 z4; intro f hf; have u2 : f 2 = (.pointer (some ⟨w.heap.size, 0, none⟩)) := (by rw [← hf]; rfl); clear hf; rintro w' ⟨h0, h1, h2, h3, h4, h5, h6, h7, h8, h9, h10, h11⟩; go_simp; try exact IntWalk.i64_in _ (by omega)
    refine obe_call (by rfl) ?_ ?_ ?_
    · clear k4_b2_0 g4_b2_0 k4_b2_1 g4_b2_1 k4_b3_0 g4_b3_0 k4_b3_1 g4_b3_1 k4_g5_0 g4_g5_0 k4_g5_1 g4_g5_1 B4 z4; intro f hf; have u53 : f 53 = (.agg #[.int .i64 u, .int .i64 v]) := (by rw [← hf]; rfl); have u54 : f 54 = (.agg #[.int .i64 x, .int .i64 y]) := (by rw [← hf]; rfl); clear hf; intro w' _; simp only [execOp, resolve, invoke, rhoF_tmp, rhoF_func, rhoF_const, u53, u54, List.map_toArray, List.map_cons, List.map_nil]; go_simp
    · clear k4_b2_0 g4_b2_0 k4_b2_1 g4_b2_1 k4_b3_0 g4_b3_0 k4_b3_1 g4_b3_1 k4_g5_0 g4_g5_0 k4_g5_1 g4_g5_1 B4 z4; rintro w' ⟨h0, h1, h2, h3, h4, h5, h6, h7, h8, h9, h10, h11⟩; exact c3 _
    refine obe_val (by rfl) ?_ ?_
    · clear k4_b2_0 g4_b2_0 k4_b2_1 g4_b2_1 k4_b3_0 g4_b3_0 k4_b3_1 g4_b3_1 k4_g5_0 g4_g5_0 k4_g5_1 g4_g5_1 B4 z4; intro f hf; have u55 : f 55 = (.int .i64 (-C)) := (by rw [← hf]; rfl); clear hf; rintro w' ⟨h0, h1, h2, h3, h4, h5, h6, h7, h8, h9, h10, h11⟩; go_simp; try exact IntWalk.i64_in _ (by omega)
    refine obe_val (by rfl) ?_ ?_
    · clear k4_b2_0 g4_b2_0 k4_b2_1 g4_b2_1 k4_b3_0 g4_b3_0 k4_b3_1 g4_b3_1 k4_g5_0 g4_g5_0 k4_g5_1 g4_g5_1 B4 z4; intro f hf; have u52 : f 52 = (.int .i64 C) := (by rw [← hf]; rfl); have u56 : f 56 = (.int .i64 C) := (by rw [← hf]; rfl); clear hf; rintro w' ⟨h0, h1, h2, h3, h4, h5, h6, h7, h8, h9, h10, h11⟩; go_simp; try exact IntWalk.i64_in _ (by omega)
    refine obe_val (by rfl) ?_ ?_
    · clear k4_b2_0 g4_b2_0 k4_b2_1 g4_b2_1 k4_b3_0 g4_b3_0 k4_b3_1 g4_b3_1 k4_g5_0 g4_g5_0 k4_g5_1 g4_g5_1 B4 z4; intro f hf; have u49 : f 49 = (.bool false) := (by rw [← hf]; rfl); have u57 : f 57 = (.bool false) := (by rw [← hf]; rfl); clear hf; rintro w' ⟨h0, h1, h2, h3, h4, h5, h6, h7, h8, h9, h10, h11⟩; go_simp; try exact IntWalk.i64_in _ (by omega)
    refine obe_val (by rfl) ?_ ?_
    · clear k4_b2_0 g4_b2_0 k4_b2_1 g4_b2_1 k4_b3_0 g4_b3_0 k4_b3_1 g4_b3_1 k4_g5_0 g4_g5_0 k4_g5_1 g4_g5_1 B4 z4; intro f hf; have u58 : f 58 = (.bool false) := (by rw [← hf]; rfl); clear hf; rintro w' ⟨h0, h1, h2, h3, h4, h5, h6, h7, h8, h9, h10, h11⟩; go_simp; try exact IntWalk.i64_in _ (by omega)
    refine obe_val (by rfl) ?_ ?_
    · clear k4_b2_0 g4_b2_0 k4_b2_1 g4_b2_1 k4_b3_0 g4_b3_0 k4_b3_1 g4_b3_1 k4_g5_0 g4_g5_0 k4_g5_1 g4_g5_1 B4 z4; intro f hf; have u2 : f 2 = (.pointer (some ⟨w.heap.size, 0, none⟩)) := (by rw [← hf]; rfl); clear hf; rintro w' ⟨h0, h1, h2, h3, h4, h5, h6, h7, h8, h9, h10, h11⟩; go_simp; try exact IntWalk.i64_in _ (by omega)
    refine obe_val (by rfl) ?_ ?_
    · clear k4_b2_0 g4_b2_0 k4_b2_1 g4_b2_1 k4_b3_0 g4_b3_0 k4_b3_1 g4_b3_1 k4_g5_0 g4_g5_0 k4_g5_1 g4_g5_1 B4 z4; intro f hf; have u3 : f 3 = (.pointer (some ⟨w.heap.size + 1, 0, none⟩)) := (by rw [← hf]; rfl); clear hf; rintro w' ⟨h0, h1, h2, h3, h4, h5, h6, h7, h8, h9, h10, h11⟩; go_simp; try exact IntWalk.i64_in _ (by omega)
    refine obe_call (by rfl) ?_ ?_ ?_
    · clear k4_b2_0 g4_b2_0 k4_b2_1 g4_b2_1 k4_b3_0 g4_b3_0 k4_b3_1 g4_b3_1 k4_g5_0 g4_g5_0 k4_g5_1 g4_g5_1 B4 z4; intro f hf; have u60 : f 60 = (.agg #[.int .i64 x, .int .i64 y]) := (by rw [← hf]; rfl); have u61 : f 61 = (.agg #[.int .i64 u, .int .i64 v]) := (by rw [← hf]; rfl); clear hf; intro w' _; simp only [execOp, resolve, invoke, rhoF_tmp, rhoF_func, rhoF_const, u60, u61, List.map_toArray, List.map_cons, List.map_nil]; go_simp
    · clear k4_b2_0 g4_b2_0 k4_b2_1 g4_b2_1 k4_b3_0 g4_b3_0 k4_b3_1 g4_b3_1 k4_g5_0 g4_g5_0 k4_g5_1 g4_g5_1 B4 z4; rintro w' ⟨h0, h1, h2, h3, h4, h5, h6, h7, h8, h9, h10, h11⟩; exact e1 _
    refine obe_val (by rfl) ?_ ?_
    · clear k4_b2_0 g4_b2_0 k4_b2_1 g4_b2_1 k4_b3_0 g4_b3_0 k4_b3_1 g4_b3_1 k4_g5_0 g4_g5_0 k4_g5_1 g4_g5_1 B4 z4; intro f hf; have u3 : f 3 = (.pointer (some ⟨w.heap.size + 1, 0, none⟩)) := (by rw [← hf]; rfl); clear hf; rintro w' ⟨h0, h1, h2, h3, h4, h5, h6, h7, h8, h9, h10, h11⟩; go_simp; try exact IntWalk.i64_in _ (by omega)
    refine obe_val (by rfl) ?_ ?_
    · clear k4_b2_0 g4_b2_0 k4_b2_1 g4_b2_1 k4_b3_0 g4_b3_0 k4_b3_1 g4_b3_1 k4_g5_0 g4_g5_0 k4_g5_1 g4_g5_1 B4 z4; intro f hf; have u2 : f 2 = (.pointer (some ⟨w.heap.size, 0, none⟩)) := (by rw [← hf]; rfl); clear hf; rintro w' ⟨h0, h1, h2, h3, h4, h5, h6, h7, h8, h9, h10, h11⟩; go_simp; try exact IntWalk.i64_in _ (by omega)
    refine obe_call (by rfl) ?_ ?_ ?_
    · clear k4_b2_0 g4_b2_0 k4_b2_1 g4_b2_1 k4_b3_0 g4_b3_0 k4_b3_1 g4_b3_1 k4_g5_0 g4_g5_0 k4_g5_1 g4_g5_1 B4 z4; intro f hf; have u63 : f 63 = (.agg #[.int .i64 u, .int .i64 v]) := (by rw [← hf]; rfl); have u64 : f 64 = (.agg #[.int .i64 x, .int .i64 y]) := (by rw [← hf]; rfl); clear hf; intro w' _; simp only [execOp, resolve, invoke, rhoF_tmp, rhoF_func, rhoF_const, u63, u64, List.map_toArray, List.map_cons, List.map_nil]; go_simp
    · clear k4_b2_0 g4_b2_0 k4_b2_1 g4_b2_1 k4_b3_0 g4_b3_0 k4_b3_1 g4_b3_1 k4_g5_0 g4_g5_0 k4_g5_1 g4_g5_1 B4 z4; rintro w' ⟨h0, h1, h2, h3, h4, h5, h6, h7, h8, h9, h10, h11⟩; exact e2 _
    refine obe_val (by rfl) ?_ ?_
    · clear k4_b2_0 g4_b2_0 k4_b2_1 g4_b2_1 k4_b3_0 g4_b3_0 k4_b3_1 g4_b3_1 k4_g5_0 g4_g5_0 k4_g5_1 g4_g5_1 B4 z4; intro f hf; have u62 : f 62 = (.int .i64 E) := (by rw [← hf]; rfl); have u65 : f 65 = (.int .i64 E) := (by rw [← hf]; rfl); clear hf; rintro w' ⟨h0, h1, h2, h3, h4, h5, h6, h7, h8, h9, h10, h11⟩; go_simp; try exact IntWalk.i64_in _ (by omega)
    refine obe_val (by rfl) ?_ ?_
    · clear k4_b2_0 g4_b2_0 k4_b2_1 g4_b2_1 k4_b3_0 g4_b3_0 k4_b3_1 g4_b3_1 k4_g5_0 g4_g5_0 k4_g5_1 g4_g5_1 B4 z4; intro f hf; have u59 : f 59 = (.bool false) := (by rw [← hf]; rfl); have u66 : f 66 = (.bool false) := (by rw [← hf]; rfl); clear hf; rintro w' ⟨h0, h1, h2, h3, h4, h5, h6, h7, h8, h9, h10, h11⟩; go_simp; try exact IntWalk.i64_in _ (by omega)
    refine obe_val (by rfl) ?_ ?_
    · clear k4_b2_0 g4_b2_0 k4_b2_1 g4_b2_1 k4_b3_0 g4_b3_0 k4_b3_1 g4_b3_1 k4_g5_0 g4_g5_0 k4_g5_1 g4_g5_1 B4 z4; intro f hf; have u67 : f 67 = (.bool false) := (by rw [← hf]; rfl); clear hf; rintro w' ⟨h0, h1, h2, h3, h4, h5, h6, h7, h8, h9, h10, h11⟩; go_simp; try exact IntWalk.i64_in _ (by omega)
    refine obe_val (by rfl) ?_ ?_
    · clear k4_b2_0 g4_b2_0 k4_b2_1 g4_b2_1 k4_b3_0 g4_b3_0 k4_b3_1 g4_b3_1 k4_g5_0 g4_g5_0 k4_g5_1 g4_g5_1 B4 z4; intro f hf; have u2 : f 2 = (.pointer (some ⟨w.heap.size, 0, none⟩)) := (by rw [← hf]; rfl); clear hf; rintro w' ⟨h0, h1, h2, h3, h4, h5, h6, h7, h8, h9, h10, h11⟩; go_simp; try exact IntWalk.i64_in _ (by omega)
    refine obe_val (by rfl) ?_ ?_
    · clear k4_b2_0 g4_b2_0 k4_b2_1 g4_b2_1 k4_b3_0 g4_b3_0 k4_b3_1 g4_b3_1 k4_g5_0 g4_g5_0 k4_g5_1 g4_g5_1 B4 z4; intro f hf; have u5 : f 5 = (.pointer (some ⟨w3.heap.size, 0, none⟩)) := (by rw [← hf]; rfl); clear hf; rintro w' ⟨h0, h1, h2, h3, h4, h5, h6, h7, h8, h9, h10, h11⟩; go_simp; try exact IntWalk.i64_in _ (by omega)
    refine obe_call (by rfl) ?_ ?_ ?_
    · clear k4_b2_0 g4_b2_0 k4_b2_1 g4_b2_1 k4_b3_0 g4_b3_0 k4_b3_1 g4_b3_1 k4_g5_0 g4_g5_0 k4_g5_1 g4_g5_1 B4 z4; intro f hf; have u69 : f 69 = (.agg #[.int .i64 x, .int .i64 y]) := (by rw [← hf]; rfl); have u70 : f 70 = (.agg #[.int .i64 (-y), .int .i64 x]) := (by rw [← hf]; rfl); clear hf; intro w' _; simp only [execOp, resolve, invoke, rhoF_tmp, rhoF_func, rhoF_const, u69, u70, List.map_toArray, List.map_cons, List.map_nil]; go_simp
    · clear k4_b2_0 g4_b2_0 k4_b2_1 g4_b2_1 k4_b3_0 g4_b3_0 k4_b3_1 g4_b3_1 k4_g5_0 g4_g5_0 k4_g5_1 g4_g5_1 B4 z4; rintro w' ⟨h0, h1, h2, h3, h4, h5, h6, h7, h8, h9, h10, h11⟩; exact e3 _
    refine obe_val (by rfl) ?_ ?_
    · clear k4_b2_0 g4_b2_0 k4_b2_1 g4_b2_1 k4_b3_0 g4_b3_0 k4_b3_1 g4_b3_1 k4_g5_0 g4_g5_0 k4_g5_1 g4_g5_1 B4 z4; intro f hf; have u71 : f 71 = (.int .i64 0) := (by rw [← hf]; rfl); clear hf; rintro w' ⟨h0, h1, h2, h3, h4, h5, h6, h7, h8, h9, h10, h11⟩; go_simp; try exact IntWalk.i64_in _ (by omega)
    refine obe_val (by rfl) ?_ ?_
    · clear k4_b2_0 g4_b2_0 k4_b2_1 g4_b2_1 k4_b3_0 g4_b3_0 k4_b3_1 g4_b3_1 k4_g5_0 g4_g5_0 k4_g5_1 g4_g5_1 B4 z4; intro f hf; have u68 : f 68 = (.bool false) := (by rw [← hf]; rfl); have u72 : f 72 = (.bool false) := (by rw [← hf]; rfl); clear hf; rintro w' ⟨h0, h1, h2, h3, h4, h5, h6, h7, h8, h9, h10, h11⟩; go_simp; try exact IntWalk.i64_in _ (by omega)
    refine obe_nil ?_
    rintro w5 ⟨h0, h1, h2, h3, h4, h5, h6, h7, h8, h9, h10, h11⟩ hb5 hF
    (try simp only [List.nil_append, List.append_nil, List.cons_append] at hF)
    simp only [puts, putD, Act.put, List.setIfInBounds_toArray, List.set_cons_zero, List.set_cons_succ]
    clear hF
    have k5_b2_0 := bcs hb5 k4_b2_0
    have g5_b2_0 := bfs hb5 k4_b2_0 g4_b2_0
    have k5_b2_1 := bcs hb5 k4_b2_1
    have g5_b2_1 := bfs hb5 k4_b2_1 g4_b2_1
    have k5_b3_0 := bcs hb5 k4_b3_0
    have g5_b3_0 := bfs hb5 k4_b3_0 g4_b3_0
    have k5_b3_1 := bcs hb5 k4_b3_1
    have g5_b3_1 := bfs hb5 k4_b3_1 g4_b3_1
    have k5_g5_0 := bcs hb5 k4_g5_0
    have g5_g5_0 := bfs hb5 k4_g5_0 g4_g5_0
    have k5_g5_1 := bcs hb5 k4_g5_1
    have g5_g5_1 := bfs hb5 k4_g5_1 g4_g5_1
    clear h0 h1 h2 h3 h4 h5 h6 h7 h8 h9 h10 h11
    have B5 := bel_step B4 hb5
    have z5 := Nat.le_trans z4 hb5.size
    clear hb5
    (try clear B4)
    (try clear z4)
    (try clear k4_b2_0)
    (try clear g4_b2_0)
    (try clear k4_b2_1)
    (try clear g4_b2_1)
    (try clear k4_b3_0)
    (try clear g4_b3_0)
    (try clear k4_b3_1)
    (try clear g4_b3_1)
    (try clear k4_g5_0)
    (try clear g4_g5_0)
    (try clear k4_g5_1)
    (try clear g4_g5_1)
    (try clear q4_b2)
    (try clear x4_b2)
    (try clear y4_b2)
    (try clear q4_b3)
    (try clear x4_b3)
    (try clear y4_b3)
    (try clear q4_g5)
    (try clear x4_g5)
    (try clear y4_g5)
    have q5_b2 : w.heap.size < w5.heap.size := qlt k5_b2_0
    have x5_b2 : ¬ w.heap.size = w5.heap.size := qne k5_b2_0
    have y5_b2 : ¬ w5.heap.size = w.heap.size := fun h => qne k5_b2_0 h.symm
    have q5_b3 : w.heap.size + 1 < w5.heap.size := qlt k5_b3_0
    have x5_b3 : ¬ w.heap.size + 1 = w5.heap.size := qne k5_b3_0
    have y5_b3 : ¬ w5.heap.size = w.heap.size + 1 := fun h => qne k5_b3_0 h.symm
    have q5_g5 : w3.heap.size < w5.heap.size := qlt k5_g5_0
    have x5_g5 : ¬ w3.heap.size = w5.heap.size := qne k5_g5_0
    have y5_g5 : ¬ w5.heap.size = w3.heap.size := fun h => qne k5_g5_0 h.symm
    unfold wpList
    go_wp2_with (first | (go_at_call 21; (with_reducible refine (n1 _).mono ?_); rintro e w6 ⟨rfl, hb6⟩; have k6_b2_0 : w6.cell? ⟨w.heap.size, 0, none⟩ = some (.int .i64 x) := bcs hb6 (by go_simp); have g6_b2_0 : w6.frozen? ⟨w.heap.size, 0, none⟩ = false := bfs hb6 (v := .int .i64 x) (by go_simp) (by go_simp); have k6_b2_1 : w6.cell? ⟨w.heap.size, 1, none⟩ = some (.int .i64 y) := bcs hb6 (by go_simp); have g6_b2_1 : w6.frozen? ⟨w.heap.size, 1, none⟩ = false := bfs hb6 (v := .int .i64 y) (by go_simp) (by go_simp); have k6_b3_0 : w6.cell? ⟨w.heap.size + 1, 0, none⟩ = some (.int .i64 u) := bcs hb6 (by go_simp); have g6_b3_0 : w6.frozen? ⟨w.heap.size + 1, 0, none⟩ = false := bfs hb6 (v := .int .i64 u) (by go_simp) (by go_simp); have k6_b3_1 : w6.cell? ⟨w.heap.size + 1, 1, none⟩ = some (.int .i64 v) := bcs hb6 (by go_simp); have g6_b3_1 : w6.frozen? ⟨w.heap.size + 1, 1, none⟩ = false := bfs hb6 (v := .int .i64 v) (by go_simp) (by go_simp); have k6_g5_0 : w6.cell? ⟨w3.heap.size, 0, none⟩ = some (.int .i64 (-y)) := bcs hb6 (by go_simp); have g6_g5_0 : w6.frozen? ⟨w3.heap.size, 0, none⟩ = false := bfs hb6 (v := .int .i64 (-y)) (by go_simp) (by go_simp); have k6_g5_1 : w6.cell? ⟨w3.heap.size, 1, none⟩ = some (.int .i64 x) := bcs hb6 (by go_simp); have g6_g5_1 : w6.frozen? ⟨w3.heap.size, 1, none⟩ = false := bfs hb6 (v := .int .i64 x) (by go_simp) (by go_simp); have q6_b2 : w.heap.size < w6.heap.size := qlt k6_b2_0; have x6_b2 : ¬ w.heap.size = w6.heap.size := qne k6_b2_0; have y6_b2 : ¬ w6.heap.size = w.heap.size := fun h => qne k6_b2_0 h.symm; have q6_b3 : w.heap.size + 1 < w6.heap.size := qlt k6_b3_0; have x6_b3 : ¬ w.heap.size + 1 = w6.heap.size := qne k6_b3_0; have y6_b3 : ¬ w6.heap.size = w.heap.size + 1 := fun h => qne k6_b3_0 h.symm; have q6_g5 : w3.heap.size < w6.heap.size := qlt k6_g5_0; have x6_g5 : ¬ w3.heap.size = w6.heap.size := qne k6_g5_0; have y6_g5 : ¬ w6.heap.size = w3.heap.size := fun h => qne k6_g5_0 h.symm; have B6 : Below w.heap.size w w6 := bel_step (by repeat (first | with_reducible exact Below.refl _ _ | with_reducible exact B5 | with_reducible apply below_drewN | with_reducible apply Below.drew | (with_reducible refine Below.alloc ?_ (by first | (simp; done) | (simp; omega) | omega) _) | (with_reducible refine Below.setCell ?_ (by first | (simp; done) | (simp; omega) | omega) _))) hb6; have z6 : w.heap.size + 1 + 1 ≤ w6.heap.size := Nat.le_trans (by first | with_reducible assumption | (simp; done) | (simp; omega)) hb6.size; clear hb6; (try clear k5_b2_0); (try clear g5_b2_0); (try clear k5_b2_1); (try clear g5_b2_1); (try clear k5_b3_0); (try clear g5_b3_0); (try clear k5_b3_1); (try clear g5_b3_1); (try clear k5_g5_0); (try clear g5_g5_0); (try clear k5_g5_1); (try clear g5_g5_1); (try clear B5); (try clear z5); (try clear q5_b2); (try clear x5_b2); (try clear y5_b2); (try clear q5_b3); (try clear x5_b3); (try clear y5_b3); (try clear q5_g5); (try clear x5_g5); (try clear y5_g5)) | (go_at_call 17; (with_reducible refine (e4 _).mono ?_); rintro e w7 ⟨rfl, hb7⟩; have k7_b2_0 : w7.cell? ⟨w.heap.size, 0, none⟩ = some (.int .i64 x) := bcs hb7 (by go_simp); have g7_b2_0 : w7.frozen? ⟨w.heap.size, 0, none⟩ = false := bfs hb7 (v := .int .i64 x) (by go_simp) (by go_simp); have k7_b2_1 : w7.cell? ⟨w.heap.size, 1, none⟩ = some (.int .i64 y) := bcs hb7 (by go_simp); have g7_b2_1 : w7.frozen? ⟨w.heap.size, 1, none⟩ = false := bfs hb7 (v := .int .i64 y) (by go_simp) (by go_simp); have k7_b3_0 : w7.cell? ⟨w.heap.size + 1, 0, none⟩ = some (.int .i64 u) := bcs hb7 (by go_simp); have g7_b3_0 : w7.frozen? ⟨w.heap.size + 1, 0, none⟩ = false := bfs hb7 (v := .int .i64 u) (by go_simp) (by go_simp); have k7_b3_1 : w7.cell? ⟨w.heap.size + 1, 1, none⟩ = some (.int .i64 v) := bcs hb7 (by go_simp); have g7_b3_1 : w7.frozen? ⟨w.heap.size + 1, 1, none⟩ = false := bfs hb7 (v := .int .i64 v) (by go_simp) (by go_simp); have k7_g5_0 : w7.cell? ⟨w3.heap.size, 0, none⟩ = some (.int .i64 (-y)) := bcs hb7 (by go_simp); have g7_g5_0 : w7.frozen? ⟨w3.heap.size, 0, none⟩ = false := bfs hb7 (v := .int .i64 (-y)) (by go_simp) (by go_simp); have k7_g5_1 : w7.cell? ⟨w3.heap.size, 1, none⟩ = some (.int .i64 x) := bcs hb7 (by go_simp); have g7_g5_1 : w7.frozen? ⟨w3.heap.size, 1, none⟩ = false := bfs hb7 (v := .int .i64 x) (by go_simp) (by go_simp); have q7_b2 : w.heap.size < w7.heap.size := qlt k7_b2_0; have x7_b2 : ¬ w.heap.size = w7.heap.size := qne k7_b2_0; have y7_b2 : ¬ w7.heap.size = w.heap.size := fun h => qne k7_b2_0 h.symm; have q7_b3 : w.heap.size + 1 < w7.heap.size := qlt k7_b3_0; have x7_b3 : ¬ w.heap.size + 1 = w7.heap.size := qne k7_b3_0; have y7_b3 : ¬ w7.heap.size = w.heap.size + 1 := fun h => qne k7_b3_0 h.symm; have q7_g5 : w3.heap.size < w7.heap.size := qlt k7_g5_0; have x7_g5 : ¬ w3.heap.size = w7.heap.size := qne k7_g5_0; have y7_g5 : ¬ w7.heap.size = w3.heap.size := fun h => qne k7_g5_0 h.symm; have B7 : Below w.heap.size w w7 := bel_step (by repeat (first | with_reducible exact Below.refl _ _ | with_reducible exact B6 | with_reducible apply below_drewN | with_reducible apply Below.drew | (with_reducible refine Below.alloc ?_ (by first | (simp; done) | (simp; omega) | omega) _) | (with_reducible refine Below.setCell ?_ (by first | (simp; done) | (simp; omega) | omega) _))) hb7; have z7 : w.heap.size + 1 + 1 ≤ w7.heap.size := Nat.le_trans (by first | with_reducible assumption | (simp; done) | (simp; omega)) hb7.size; clear hb7; (try clear k6_b2_0); (try clear g6_b2_0); (try clear k6_b2_1); (try clear g6_b2_1); (try clear k6_b3_0); (try clear g6_b3_0); (try clear k6_b3_1); (try clear g6_b3_1); (try clear k6_g5_0); (try clear g6_g5_0); (try clear k6_g5_1); (try clear g6_g5_1); (try clear B6); (try clear z6); (try clear q6_b2); (try clear x6_b2); (try clear y6_b2); (try clear q6_b3); (try clear x6_b3); (try clear y6_b3); (try clear q6_g5); (try clear x6_g5); (try clear y6_g5)))
    rcases hord with ⟨j1, j2, j3⟩ | ⟨j1, j2, j3⟩ | ⟨j1, j2, j3⟩
    · rw [j1] at l1
      rw [j2] at l2
      rw [j3] at nq
      clear j1 j2 j3
      refine wp_region_env (fun w' => w'.cell? ⟨w.heap.size, 0, none⟩ = some (.int .i64 x) ∧ w'.frozen? ⟨w.heap.size, 0, none⟩ = false ∧ w'.cell? ⟨w.heap.size, 1, none⟩ = some (.int .i64 y) ∧ w'.frozen? ⟨w.heap.size, 1, none⟩ = false ∧ w'.cell? ⟨w.heap.size + 1, 0, none⟩ = some (.int .i64 u) ∧ w'.frozen? ⟨w.heap.size + 1, 0, none⟩ = false ∧ w'.cell? ⟨w.heap.size + 1, 1, none⟩ = some (.int .i64 v) ∧ w'.frozen? ⟨w.heap.size + 1, 1, none⟩ = false ∧ w'.cell? ⟨w3.heap.size, 0, none⟩ = some (.int .i64 (-y)) ∧ w'.frozen? ⟨w3.heap.size, 0, none⟩ = false ∧ w'.cell? ⟨w3.heap.size, 1, none⟩ = some (.int .i64 x) ∧ w'.frozen? ⟨w3.heap.size, 1, none⟩ = false) (fun W => W.cell? ⟨w.heap.size, 0, none⟩ = some (.int .i64 x) ∧ W.frozen? ⟨w.heap.size, 0, none⟩ = false ∧ W.cell? ⟨w.heap.size, 1, none⟩ = some (.int .i64 y) ∧ W.frozen? ⟨w.heap.size, 1, none⟩ = false ∧ W.cell? ⟨w.heap.size + 1, 0, none⟩ = some (.int .i64 u) ∧ W.frozen? ⟨w.heap.size + 1, 0, none⟩ = false ∧ W.cell? ⟨w.heap.size + 1, 1, none⟩ = some (.int .i64 v) ∧ W.frozen? ⟨w.heap.size + 1, 1, none⟩ = false ∧ W.cell? ⟨w3.heap.size, 0, none⟩ = some (.int .i64 (-y)) ∧ W.frozen? ⟨w3.heap.size, 0, none⟩ = false ∧ W.cell? ⟨w3.heap.size, 1, none⟩ = some (.int .i64 x) ∧ W.frozen? ⟨w3.heap.size, 1, none⟩ = false ∧ Below w.heap.size w W ∧ w.heap.size + 1 + 1 ≤ W.heap.size) 57 136 [.val (.int .i64 r), .val (.bool true), .val (.bool true), .val (.int .i64 r), .val (.bool true), .val (.bool true), .val (.bool true), .val (.int .i64 r), .val (.int .i64 r), .val (.int .i64 (r * r)), .val (.int .i64 (65536 * G)), .val (.bool true), .val (.bool true), .val (.bool true), .val (.int .i64 r), .val (.int .i64 (r + 1)), .val (.int .i64 r), .val (.int .i64 (r + 1)), .val (.int .i64 ((r + 1) * (r + 1))), .val (.int .i64 (65536 * G)), .val (.bool true), .val (.bool true), .val (.bool true), .val (.agg #[.int .i64 (-y), .int .i64 x]), .call 21 #[.agg #[.int .i64 (-y), .int .i64 x]] (.int .i64 r), .val (.int .i64 r), .val (.bool true), .val (.bool true), .val (.bool true), .val (.agg #[.int .i64 x, .int .i64 y]), .val (.agg #[.int .i64 u, .int .i64 v]), .call 23 #[.agg #[.int .i64 x, .int .i64 y], .agg #[.int .i64 u, .int .i64 v]] (.bool true), .val (.bool true), .skip, .skip, .skip, .val (.bool true), .val (.agg #[.int .i64 x, .int .i64 y]), .val (.agg #[.int .i64 u, .int .i64 v]), .val (.bool true), .val (.bool true), .val (.bool true), .val (.bool true), .val (.agg #[.int .i64 x, .int .i64 y]), .val (.agg #[.int .i64 u, .int .i64 v]), .call 23 #[.agg #[.int .i64 x, .int .i64 y], .agg #[.int .i64 u, .int .i64 v]] (.bool true), .val (.bool true), .val (.agg #[.int .i64 u, .int .i64 v]), .val (.agg #[.int .i64 x, .int .i64 y]), .call 23 #[.agg #[.int .i64 u, .int .i64 v], .agg #[.int .i64 x, .int .i64 y]] (.bool false), .val (.bool false), .val (.bool true), .val (.bool true), .val (.bool true), .call 25 #[] (.bool true), .val (.bool true), .val (.bool true)] (by kernel_rfl) (by kernel_rfl) rfl (by kernel_rfl) (by rintro w1 w2 ⟨h0, h1, h2, h3, h4, h5, h6, h7, h8, h9, h10, h11⟩ hb; exact ⟨bcs hb h0, bfs hb h0 h1, bcs hb h2, bfs hb h2 h3, bcs hb h4, bfs hb h4 h5, bcs hb h6, bfs hb h6 h7, bcs hb h8, bfs hb h8 h9, bcs hb h10, bfs hb h10 h11⟩) ⟨by first | with_reducible assumption | go_simp, by first | with_reducible assumption | go_simp, by first | with_reducible assumption | go_simp, by first | with_reducible assumption | go_simp, by first | with_reducible assumption | go_simp, by first | with_reducible assumption | go_simp, by first | with_reducible assumption | go_simp, by first | with_reducible assumption | go_simp, by first | with_reducible assumption | go_simp, by first | with_reducible assumption | go_simp, by first | with_reducible assumption | go_simp, by first | with_reducible assumption | go_simp, by repeat (first | with_reducible exact Below.refl _ _ | with_reducible exact B7 | with_reducible apply below_drewN | with_reducible apply Below.drew | (with_reducible refine Below.alloc ?_ (by first | (simp; done) | (simp; omega) | omega) _) | (with_reducible refine Below.setCell ?_ (by first | (simp; done) | (simp; omega) | omega) _)), by first | with_reducible assumption | (simp; done) | (simp; omega)⟩ ?_ ?_
      · rintro W ⟨k8_b2_0, g8_b2_0, k8_b2_1, g8_b2_1, k8_b3_0, g8_b3_0, k8_b3_1, g8_b3_1, k8_g5_0, g8_g5_0, k8_g5_1, g8_g5_1, B8, z8⟩; exact ⟨k8_b2_0, g8_b2_0, k8_b2_1, g8_b2_1, k8_b3_0, g8_b3_0, k8_b3_1, g8_b3_1, k8_g5_0, g8_g5_0, k8_g5_1, g8_g5_1⟩
      (try clear B7)
      (try clear z7)
      (try clear k7_b2_0)
      (try clear g7_b2_0)
      (try clear k7_b2_1)
      (try clear g7_b2_1)
      (try clear k7_b3_0)
      (try clear g7_b3_0)
      (try clear k7_b3_1)
      (try clear g7_b3_1)
      (try clear k7_g5_0)
      (try clear g7_g5_0)
      (try clear k7_g5_1)
      (try clear g7_g5_1)
      (try clear q7_b2)
      (try clear x7_b2)
      (try clear y7_b2)
      (try clear q7_b3)
      (try clear x7_b3)
      (try clear y7_b3)
      (try clear q7_g5)
      (try clear x7_g5)
      (try clear y7_g5)
      rintro w8 ⟨k8_b2_0, g8_b2_0, k8_b2_1, g8_b2_1, k8_b3_0, g8_b3_0, k8_b3_1, g8_b3_1, k8_g5_0, g8_g5_0, k8_g5_1, g8_g5_1, B8, z8⟩ gg
      simp only [List.take_succ_cons, List.take_zero, List.drop_succ_cons, List.drop_zero, List.cons_append, List.nil_append, List.append_nil]
      refine obe_val (by rfl) ?_ ?_
      · clear k8_b2_0 g8_b2_0 k8_b2_1 g8_b2_1 k8_b3_0 g8_b3_0 k8_b3_1 g8_b3_1 k8_g5_0 g8_g5_0 k8_g5_1 g8_g5_1 B8 z8; intro f hf; have u6 : f 6 = (.int .i64 r) := (by rw [← hf]; rfl); clear hf; rintro w' ⟨h0, h1, h2, h3, h4, h5, h6, h7, h8, h9, h10, h11⟩; go_simp; try exact IntWalk.i64_in _ (by omega)
      refine obe_val (by rfl) ?_ ?_
      · clear k8_b2_0 g8_b2_0 k8_b2_1 g8_b2_1 k8_b3_0 g8_b3_0 k8_b3_1 g8_b3_1 k8_g5_0 g8_g5_0 k8_g5_1 g8_g5_1 B8 z8; intro f hf; have u80 : f 80 = (.int .i64 r) := (by rw [← hf]; rfl); clear hf; rintro w' ⟨h0, h1, h2, h3, h4, h5, h6, h7, h8, h9, h10, h11⟩; go_simp; try exact IntWalk.i64_in _ (by omega)
      refine obe_val (by rfl) ?_ ?_
      · clear k8_b2_0 g8_b2_0 k8_b2_1 g8_b2_1 k8_b3_0 g8_b3_0 k8_b3_1 g8_b3_1 k8_g5_0 g8_g5_0 k8_g5_1 g8_g5_1 B8 z8; intro f hf; have u81 : f 81 = (.bool true) := (by rw [← hf]; rfl); clear hf; rintro w' ⟨h0, h1, h2, h3, h4, h5, h6, h7, h8, h9, h10, h11⟩; go_simp; try exact IntWalk.i64_in _ (by omega)
      refine obe_val (by rfl) ?_ ?_
      · clear k8_b2_0 g8_b2_0 k8_b2_1 g8_b2_1 k8_b3_0 g8_b3_0 k8_b3_1 g8_b3_1 k8_g5_0 g8_g5_0 k8_g5_1 g8_g5_1 B8 z8; intro f hf; have u6 : f 6 = (.int .i64 r) := (by rw [← hf]; rfl); clear hf; rintro w' ⟨h0, h1, h2, h3, h4, h5, h6, h7, h8, h9, h10, h11⟩; go_simp; try exact IntWalk.i64_in _ (by omega)
      refine obe_val (by rfl) ?_ ?_
      · clear k8_b2_0 g8_b2_0 k8_b2_1 g8_b2_1 k8_b3_0 g8_b3_0 k8_b3_1 g8_b3_1 k8_g5_0 g8_g5_0 k8_g5_1 g8_g5_1 B8 z8; intro f hf; have u83 : f 83 = (.int .i64 r) := (by rw [← hf]; rfl); clear hf; rintro w' ⟨h0, h1, h2, h3, h4, h5, h6, h7, h8, h9, h10, h11⟩; go_simp; try exact IntWalk.i64_in _ (by omega)
      refine obe_val (by rfl) ?_ ?_
      · clear k8_b2_0 g8_b2_0 k8_b2_1 g8_b2_1 k8_b3_0 g8_b3_0 k8_b3_1 g8_b3_1 k8_g5_0 g8_g5_0 k8_g5_1 g8_g5_1 B8 z8; intro f hf; have u82 : f 82 = (.bool true) := (by rw [← hf]; rfl); have u84 : f 84 = (.bool true) := (by rw [← hf]; rfl); clear hf; rintro w' ⟨h0, h1, h2, h3, h4, h5, h6, h7, h8, h9, h10, h11⟩; go_simp; try exact IntWalk.i64_in _ (by omega)
      refine obe_val (by rfl) ?_ ?_
      · clear k8_b2_0 g8_b2_0 k8_b2_1 g8_b2_1 k8_b3_0 g8_b3_0 k8_b3_1 g8_b3_1 k8_g5_0 g8_g5_0 k8_g5_1 g8_g5_1 B8 z8; intro f hf; have u85 : f 85 = (.bool true) := (by rw [← hf]; rfl); clear hf; rintro w' ⟨h0, h1, h2, h3, h4, h5, h6, h7, h8, h9, h10, h11⟩; go_simp; try exact IntWalk.i64_in _ (by omega)
      refine obe_val (by rfl) ?_ ?_
      · clear k8_b2_0 g8_b2_0 k8_b2_1 g8_b2_1 k8_b3_0 g8_b3_0 k8_b3_1 g8_b3_1 k8_g5_0 g8_g5_0 k8_g5_1 g8_g5_1 B8 z8; intro f hf; have u6 : f 6 = (.int .i64 r) := (by rw [← hf]; rfl); clear hf; rintro w' ⟨h0, h1, h2, h3, h4, h5, h6, h7, h8, h9, h10, h11⟩; go_simp; try exact IntWalk.i64_in _ (by omega)
      refine obe_val (by rfl) ?_ ?_
      · clear k8_b2_0 g8_b2_0 k8_b2_1 g8_b2_1 k8_b3_0 g8_b3_0 k8_b3_1 g8_b3_1 k8_g5_0 g8_g5_0 k8_g5_1 g8_g5_1 B8 z8; intro f hf; have u6 : f 6 = (.int .i64 r) := (by rw [← hf]; rfl); clear hf; rintro w' ⟨h0, h1, h2, h3, h4, h5, h6, h7, h8, h9, h10, h11⟩; go_simp; try exact IntWalk.i64_in _ (by omega)
      refine obe_val (by rfl) ?_ ?_
      · clear k8_b2_0 g8_b2_0 k8_b2_1 g8_b2_1 k8_b3_0 g8_b3_0 k8_b3_1 g8_b3_1 k8_g5_0 g8_g5_0 k8_g5_1 g8_g5_1 B8 z8; intro f hf; have u87 : f 87 = (.int .i64 r) := (by rw [← hf]; rfl); have u88 : f 88 = (.int .i64 r) := (by rw [← hf]; rfl); clear hf; rintro w' ⟨h0, h1, h2, h3, h4, h5, h6, h7, h8, h9, h10, h11⟩; go_simp; try exact IntWalk.i64_in _ (by omega)
      refine obe_val (by rfl) ?_ ?_
      · clear k8_b2_0 g8_b2_0 k8_b2_1 g8_b2_1 k8_b3_0 g8_b3_0 k8_b3_1 g8_b3_1 k8_g5_0 g8_g5_0 k8_g5_1 g8_g5_1 B8 z8; intro f hf; have u7 : f 7 = (.int .i64 (65536 * G)) := (by rw [← hf]; rfl); clear hf; rintro w' ⟨h0, h1, h2, h3, h4, h5, h6, h7, h8, h9, h10, h11⟩; go_simp; try exact IntWalk.i64_in _ (by omega)
      refine obe_val (by rfl) ?_ ?_
      · clear k8_b2_0 g8_b2_0 k8_b2_1 g8_b2_1 k8_b3_0 g8_b3_0 k8_b3_1 g8_b3_1 k8_g5_0 g8_g5_0 k8_g5_1 g8_g5_1 B8 z8; intro f hf; have u89 : f 89 = (.int .i64 (r * r)) := (by rw [← hf]; rfl); have u90 : f 90 = (.int .i64 (65536 * G)) := (by rw [← hf]; rfl); clear hf; rintro w' ⟨h0, h1, h2, h3, h4, h5, h6, h7, h8, h9, h10, h11⟩; go_simp; try exact IntWalk.i64_in _ (by omega)
      refine obe_val (by rfl) ?_ ?_
      · clear k8_b2_0 g8_b2_0 k8_b2_1 g8_b2_1 k8_b3_0 g8_b3_0 k8_b3_1 g8_b3_1 k8_g5_0 g8_g5_0 k8_g5_1 g8_g5_1 B8 z8; intro f hf; have u86 : f 86 = (.bool true) := (by rw [← hf]; rfl); have u91 : f 91 = (.bool true) := (by rw [← hf]; rfl); clear hf; rintro w' ⟨h0, h1, h2, h3, h4, h5, h6, h7, h8, h9, h10, h11⟩; go_simp; try exact IntWalk.i64_in _ (by omega)
      refine obe_val (by rfl) ?_ ?_
      · clear k8_b2_0 g8_b2_0 k8_b2_1 g8_b2_1 k8_b3_0 g8_b3_0 k8_b3_1 g8_b3_1 k8_g5_0 g8_g5_0 k8_g5_1 g8_g5_1 B8 z8; intro f hf; have u92 : f 92 = (.bool true) := (by rw [← hf]; rfl); clear hf; rintro w' ⟨h0, h1, h2, h3, h4, h5, h6, h7, h8, h9, h10, h11⟩; go_simp; try exact IntWalk.i64_in _ (by omega)
      refine obe_val (by rfl) ?_ ?_
      · clear k8_b2_0 g8_b2_0 k8_b2_1 g8_b2_1 k8_b3_0 g8_b3_0 k8_b3_1 g8_b3_1 k8_g5_0 g8_g5_0 k8_g5_1 g8_g5_1 B8 z8; intro f hf; have u6 : f 6 = (.int .i64 r) := (by rw [← hf]; rfl); clear hf; rintro w' ⟨h0, h1, h2, h3, h4, h5, h6, h7, h8, h9, h10, h11⟩; go_simp; try exact IntWalk.i64_in _ (by omega)
      refine obe_val (by rfl) ?_ ?_
      · clear k8_b2_0 g8_b2_0 k8_b2_1 g8_b2_1 k8_b3_0 g8_b3_0 k8_b3_1 g8_b3_1 k8_g5_0 g8_g5_0 k8_g5_1 g8_g5_1 B8 z8; intro f hf; have u94 : f 94 = (.int .i64 r) := (by rw [← hf]; rfl); clear hf; rintro w' ⟨h0, h1, h2, h3, h4, h5, h6, h7, h8, h9, h10, h11⟩; go_simp; try exact IntWalk.i64_in _ (by omega)
      refine obe_val (by rfl) ?_ ?_
      · clear k8_b2_0 g8_b2_0 k8_b2_1 g8_b2_1 k8_b3_0 g8_b3_0 k8_b3_1 g8_b3_1 k8_g5_0 g8_g5_0 k8_g5_1 g8_g5_1 B8 z8; intro f hf; have u6 : f 6 = (.int .i64 r) := (by rw [← hf]; rfl); clear hf; rintro w' ⟨h0, h1, h2, h3, h4, h5, h6, h7, h8, h9, h10, h11⟩; go_simp; try exact IntWalk.i64_in _ (by omega)
      refine obe_val (by rfl) ?_ ?_
      · clear k8_b2_0 g8_b2_0 k8_b2_1 g8_b2_1 k8_b3_0 g8_b3_0 k8_b3_1 g8_b3_1 k8_g5_0 g8_g5_0 k8_g5_1 g8_g5_1 B8 z8; intro f hf; have u96 : f 96 = (.int .i64 r) := (by rw [← hf]; rfl); clear hf; rintro w' ⟨h0, h1, h2, h3, h4, h5, h6, h7, h8, h9, h10, h11⟩; go_simp; try exact IntWalk.i64_in _ (by omega)
      refine obe_val (by rfl) ?_ ?_
      · clear k8_b2_0 g8_b2_0 k8_b2_1 g8_b2_1 k8_b3_0 g8_b3_0 k8_b3_1 g8_b3_1 k8_g5_0 g8_g5_0 k8_g5_1 g8_g5_1 B8 z8; intro f hf; have u95 : f 95 = (.int .i64 (r + 1)) := (by rw [← hf]; rfl); have u97 : f 97 = (.int .i64 (r + 1)) := (by rw [← hf]; rfl); clear hf; rintro w' ⟨h0, h1, h2, h3, h4, h5, h6, h7, h8, h9, h10, h11⟩; go_simp; try exact IntWalk.i64_in _ (by omega)
      refine obe_val (by rfl) ?_ ?_
      · clear k8_b2_0 g8_b2_0 k8_b2_1 g8_b2_1 k8_b3_0 g8_b3_0 k8_b3_1 g8_b3_1 k8_g5_0 g8_g5_0 k8_g5_1 g8_g5_1 B8 z8; intro f hf; have u7 : f 7 = (.int .i64 (65536 * G)) := (by rw [← hf]; rfl); clear hf; rintro w' ⟨h0, h1, h2, h3, h4, h5, h6, h7, h8, h9, h10, h11⟩; go_simp; try exact IntWalk.i64_in _ (by omega)
      refine obe_val (by rfl) ?_ ?_
      · clear k8_b2_0 g8_b2_0 k8_b2_1 g8_b2_1 k8_b3_0 g8_b3_0 k8_b3_1 g8_b3_1 k8_g5_0 g8_g5_0 k8_g5_1 g8_g5_1 B8 z8; intro f hf; have u98 : f 98 = (.int .i64 ((r + 1) * (r + 1))) := (by rw [← hf]; rfl); have u99 : f 99 = (.int .i64 (65536 * G)) := (by rw [← hf]; rfl); clear hf; rintro w' ⟨h0, h1, h2, h3, h4, h5, h6, h7, h8, h9, h10, h11⟩; go_simp; try exact IntWalk.i64_in _ (by omega)
      refine obe_val (by rfl) ?_ ?_
      · clear k8_b2_0 g8_b2_0 k8_b2_1 g8_b2_1 k8_b3_0 g8_b3_0 k8_b3_1 g8_b3_1 k8_g5_0 g8_g5_0 k8_g5_1 g8_g5_1 B8 z8; intro f hf; have u93 : f 93 = (.bool true) := (by rw [← hf]; rfl); have u100 : f 100 = (.bool true) := (by rw [← hf]; rfl); clear hf; rintro w' ⟨h0, h1, h2, h3, h4, h5, h6, h7, h8, h9, h10, h11⟩; go_simp; try exact IntWalk.i64_in _ (by omega)
      refine obe_val (by rfl) ?_ ?_
      · clear k8_b2_0 g8_b2_0 k8_b2_1 g8_b2_1 k8_b3_0 g8_b3_0 k8_b3_1 g8_b3_1 k8_g5_0 g8_g5_0 k8_g5_1 g8_g5_1 B8 z8; intro f hf; have u101 : f 101 = (.bool true) := (by rw [← hf]; rfl); clear hf; rintro w' ⟨h0, h1, h2, h3, h4, h5, h6, h7, h8, h9, h10, h11⟩; go_simp; try exact IntWalk.i64_in _ (by omega)
      refine obe_val (by rfl) ?_ ?_
      · clear k8_b2_0 g8_b2_0 k8_b2_1 g8_b2_1 k8_b3_0 g8_b3_0 k8_b3_1 g8_b3_1 k8_g5_0 g8_g5_0 k8_g5_1 g8_g5_1 B8 z8; intro f hf; have u5 : f 5 = (.pointer (some ⟨w3.heap.size, 0, none⟩)) := (by rw [← hf]; rfl); clear hf; rintro w' ⟨h0, h1, h2, h3, h4, h5, h6, h7, h8, h9, h10, h11⟩; go_simp; try exact IntWalk.i64_in _ (by omega)
      refine obe_call (by rfl) ?_ ?_ ?_
      · clear k8_b2_0 g8_b2_0 k8_b2_1 g8_b2_1 k8_b3_0 g8_b3_0 k8_b3_1 g8_b3_1 k8_g5_0 g8_g5_0 k8_g5_1 g8_g5_1 B8 z8; intro f hf; have u103 : f 103 = (.agg #[.int .i64 (-y), .int .i64 x]) := (by rw [← hf]; rfl); clear hf; intro w' _; simp only [execOp, resolve, invoke, rhoF_tmp, rhoF_func, rhoF_const, u103, List.map_toArray, List.map_cons, List.map_nil]; go_simp
      · clear k8_b2_0 g8_b2_0 k8_b2_1 g8_b2_1 k8_b3_0 g8_b3_0 k8_b3_1 g8_b3_1 k8_g5_0 g8_g5_0 k8_g5_1 g8_g5_1 B8 z8; rintro w' ⟨h0, h1, h2, h3, h4, h5, h6, h7, h8, h9, h10, h11⟩; exact n2 _
      refine obe_val (by rfl) ?_ ?_
      · clear k8_b2_0 g8_b2_0 k8_b2_1 g8_b2_1 k8_b3_0 g8_b3_0 k8_b3_1 g8_b3_1 k8_g5_0 g8_g5_0 k8_g5_1 g8_g5_1 B8 z8; intro f hf; have u6 : f 6 = (.int .i64 r) := (by rw [← hf]; rfl); clear hf; rintro w' ⟨h0, h1, h2, h3, h4, h5, h6, h7, h8, h9, h10, h11⟩; go_simp; try exact IntWalk.i64_in _ (by omega)
      refine obe_val (by rfl) ?_ ?_
      · clear k8_b2_0 g8_b2_0 k8_b2_1 g8_b2_1 k8_b3_0 g8_b3_0 k8_b3_1 g8_b3_1 k8_g5_0 g8_g5_0 k8_g5_1 g8_g5_1 B8 z8; intro f hf; have u104 : f 104 = (.int .i64 r) := (by rw [← hf]; rfl); have u105 : f 105 = (.int .i64 r) := (by rw [← hf]; rfl); clear hf; rintro w' ⟨h0, h1, h2, h3, h4, h5, h6, h7, h8, h9, h10, h11⟩; go_simp; try exact IntWalk.i64_in _ (by omega)
      refine obe_val (by rfl) ?_ ?_
      · clear k8_b2_0 g8_b2_0 k8_b2_1 g8_b2_1 k8_b3_0 g8_b3_0 k8_b3_1 g8_b3_1 k8_g5_0 g8_g5_0 k8_g5_1 g8_g5_1 B8 z8; intro f hf; have u102 : f 102 = (.bool true) := (by rw [← hf]; rfl); have u106 : f 106 = (.bool true) := (by rw [← hf]; rfl); clear hf; rintro w' ⟨h0, h1, h2, h3, h4, h5, h6, h7, h8, h9, h10, h11⟩; go_simp; try exact IntWalk.i64_in _ (by omega)
      refine obe_val (by rfl) ?_ ?_
      · clear k8_b2_0 g8_b2_0 k8_b2_1 g8_b2_1 k8_b3_0 g8_b3_0 k8_b3_1 g8_b3_1 k8_g5_0 g8_g5_0 k8_g5_1 g8_g5_1 B8 z8; intro f hf; have u107 : f 107 = (.bool true) := (by rw [← hf]; rfl); clear hf; rintro w' ⟨h0, h1, h2, h3, h4, h5, h6, h7, h8, h9, h10, h11⟩; go_simp; try exact IntWalk.i64_in _ (by omega)
      refine obe_val (by rfl) ?_ ?_
      · clear k8_b2_0 g8_b2_0 k8_b2_1 g8_b2_1 k8_b3_0 g8_b3_0 k8_b3_1 g8_b3_1 k8_g5_0 g8_g5_0 k8_g5_1 g8_g5_1 B8 z8; intro f hf; have u2 : f 2 = (.pointer (some ⟨w.heap.size, 0, none⟩)) := (by rw [← hf]; rfl); clear hf; rintro w' ⟨h0, h1, h2, h3, h4, h5, h6, h7, h8, h9, h10, h11⟩; go_simp; try exact IntWalk.i64_in _ (by omega)
      refine obe_val (by rfl) ?_ ?_
      · clear k8_b2_0 g8_b2_0 k8_b2_1 g8_b2_1 k8_b3_0 g8_b3_0 k8_b3_1 g8_b3_1 k8_g5_0 g8_g5_0 k8_g5_1 g8_g5_1 B8 z8; intro f hf; have u3 : f 3 = (.pointer (some ⟨w.heap.size + 1, 0, none⟩)) := (by rw [← hf]; rfl); clear hf; rintro w' ⟨h0, h1, h2, h3, h4, h5, h6, h7, h8, h9, h10, h11⟩; go_simp; try exact IntWalk.i64_in _ (by omega)
      refine obe_call (by rfl) ?_ ?_ ?_
      · clear k8_b2_0 g8_b2_0 k8_b2_1 g8_b2_1 k8_b3_0 g8_b3_0 k8_b3_1 g8_b3_1 k8_g5_0 g8_g5_0 k8_g5_1 g8_g5_1 B8 z8; intro f hf; have u109 : f 109 = (.agg #[.int .i64 x, .int .i64 y]) := (by rw [← hf]; rfl); have u110 : f 110 = (.agg #[.int .i64 u, .int .i64 v]) := (by rw [← hf]; rfl); clear hf; intro w' _; simp only [execOp, resolve, invoke, rhoF_tmp, rhoF_func, rhoF_const, u109, u110, List.map_toArray, List.map_cons, List.map_nil]; go_simp
      · clear k8_b2_0 g8_b2_0 k8_b2_1 g8_b2_1 k8_b3_0 g8_b3_0 k8_b3_1 g8_b3_1 k8_g5_0 g8_g5_0 k8_g5_1 g8_g5_1 B8 z8; rintro w' ⟨h0, h1, h2, h3, h4, h5, h6, h7, h8, h9, h10, h11⟩; exact l1 _
      refine obe_val (by rfl) ?_ ?_
      · clear k8_b2_0 g8_b2_0 k8_b2_1 g8_b2_1 k8_b3_0 g8_b3_0 k8_b3_1 g8_b3_1 k8_g5_0 g8_g5_0 k8_g5_1 g8_g5_1 B8 z8; intro f hf; have u111 : f 111 = (.bool true) := (by rw [← hf]; rfl); clear hf; rintro w' ⟨h0, h1, h2, h3, h4, h5, h6, h7, h8, h9, h10, h11⟩; go_simp; try exact IntWalk.i64_in _ (by omega)
      refine obe_skip (by rfl) ?_
      refine obe_skip (by rfl) ?_
      refine obe_skip (by rfl) ?_
      refine obe_val (by rfl) ?_ ?_
      · clear k8_b2_0 g8_b2_0 k8_b2_1 g8_b2_1 k8_b3_0 g8_b3_0 k8_b3_1 g8_b3_1 k8_g5_0 g8_g5_0 k8_g5_1 g8_g5_1 B8 z8; intro f hf; have u112 : f 112 = (.bool true) := (by rw [← hf]; rfl); clear hf; rintro w' ⟨h0, h1, h2, h3, h4, h5, h6, h7, h8, h9, h10, h11⟩; go_simp; try exact IntWalk.i64_in _ (by omega)
      refine obe_val (by rfl) ?_ ?_
      · clear k8_b2_0 g8_b2_0 k8_b2_1 g8_b2_1 k8_b3_0 g8_b3_0 k8_b3_1 g8_b3_1 k8_g5_0 g8_g5_0 k8_g5_1 g8_g5_1 B8 z8; intro f hf; have u2 : f 2 = (.pointer (some ⟨w.heap.size, 0, none⟩)) := (by rw [← hf]; rfl); clear hf; rintro w' ⟨h0, h1, h2, h3, h4, h5, h6, h7, h8, h9, h10, h11⟩; go_simp; try exact IntWalk.i64_in _ (by omega)
      refine obe_val (by rfl) ?_ ?_
      · clear k8_b2_0 g8_b2_0 k8_b2_1 g8_b2_1 k8_b3_0 g8_b3_0 k8_b3_1 g8_b3_1 k8_g5_0 g8_g5_0 k8_g5_1 g8_g5_1 B8 z8; intro f hf; have u3 : f 3 = (.pointer (some ⟨w.heap.size + 1, 0, none⟩)) := (by rw [← hf]; rfl); clear hf; rintro w' ⟨h0, h1, h2, h3, h4, h5, h6, h7, h8, h9, h10, h11⟩; go_simp; try exact IntWalk.i64_in _ (by omega)
      refine obe_val (by rfl) ?_ ?_
      · clear k8_b2_0 g8_b2_0 k8_b2_1 g8_b2_1 k8_b3_0 g8_b3_0 k8_b3_1 g8_b3_1 k8_g5_0 g8_g5_0 k8_g5_1 g8_g5_1 B8 z8; intro f hf; have u117 : f 117 = (.agg #[.int .i64 x, .int .i64 y]) := (by rw [← hf]; rfl); have u118 : f 118 = (.agg #[.int .i64 u, .int .i64 v]) := (by rw [← hf]; rfl); clear hf; rintro w' ⟨h0, h1, h2, h3, h4, h5, h6, h7, h8, h9, h10, h11⟩; go_simp; try exact IntWalk.i64_in _ (by omega)
      refine obe_val (by rfl) ?_ ?_
      · clear k8_b2_0 g8_b2_0 k8_b2_1 g8_b2_1 k8_b3_0 g8_b3_0 k8_b3_1 g8_b3_1 k8_g5_0 g8_g5_0 k8_g5_1 g8_g5_1 B8 z8; intro f hf; have u116 : f 116 = (.bool true) := (by rw [← hf]; rfl); have u119 : f 119 = (.bool true) := (by rw [← hf]; rfl); clear hf; rintro w' ⟨h0, h1, h2, h3, h4, h5, h6, h7, h8, h9, h10, h11⟩; go_simp; try exact IntWalk.i64_in _ (by omega)
      refine obe_val (by rfl) ?_ ?_
      · clear k8_b2_0 g8_b2_0 k8_b2_1 g8_b2_1 k8_b3_0 g8_b3_0 k8_b3_1 g8_b3_1 k8_g5_0 g8_g5_0 k8_g5_1 g8_g5_1 B8 z8; intro f hf; have u108 : f 108 = (.bool true) := (by rw [← hf]; rfl); have u120 : f 120 = (.bool true) := (by rw [← hf]; rfl); clear hf; rintro w' ⟨h0, h1, h2, h3, h4, h5, h6, h7, h8, h9, h10, h11⟩; go_simp; try exact IntWalk.i64_in _ (by omega)
      refine obe_val (by rfl) ?_ ?_
      · clear k8_b2_0 g8_b2_0 k8_b2_1 g8_b2_1 k8_b3_0 g8_b3_0 k8_b3_1 g8_b3_1 k8_g5_0 g8_g5_0 k8_g5_1 g8_g5_1 B8 z8; intro f hf; have u121 : f 121 = (.bool true) := (by rw [← hf]; rfl); clear hf; rintro w' ⟨h0, h1, h2, h3, h4, h5, h6, h7, h8, h9, h10, h11⟩; go_simp; try exact IntWalk.i64_in _ (by omega)
      refine obe_val (by rfl) ?_ ?_
      · clear k8_b2_0 g8_b2_0 k8_b2_1 g8_b2_1 k8_b3_0 g8_b3_0 k8_b3_1 g8_b3_1 k8_g5_0 g8_g5_0 k8_g5_1 g8_g5_1 B8 z8; intro f hf; have u2 : f 2 = (.pointer (some ⟨w.heap.size, 0, none⟩)) := (by rw [← hf]; rfl); clear hf; rintro w' ⟨h0, h1, h2, h3, h4, h5, h6, h7, h8, h9, h10, h11⟩; go_simp; try exact IntWalk.i64_in _ (by omega)
      refine obe_val (by rfl) ?_ ?_
      · clear k8_b2_0 g8_b2_0 k8_b2_1 g8_b2_1 k8_b3_0 g8_b3_0 k8_b3_1 g8_b3_1 k8_g5_0 g8_g5_0 k8_g5_1 g8_g5_1 B8 z8; intro f hf; have u3 : f 3 = (.pointer (some ⟨w.heap.size + 1, 0, none⟩)) := (by rw [← hf]; rfl); clear hf; rintro w' ⟨h0, h1, h2, h3, h4, h5, h6, h7, h8, h9, h10, h11⟩; go_simp; try exact IntWalk.i64_in _ (by omega)
      refine obe_call (by rfl) ?_ ?_ ?_
      · clear k8_b2_0 g8_b2_0 k8_b2_1 g8_b2_1 k8_b3_0 g8_b3_0 k8_b3_1 g8_b3_1 k8_g5_0 g8_g5_0 k8_g5_1 g8_g5_1 B8 z8; intro f hf; have u123 : f 123 = (.agg #[.int .i64 x, .int .i64 y]) := (by rw [← hf]; rfl); have u124 : f 124 = (.agg #[.int .i64 u, .int .i64 v]) := (by rw [← hf]; rfl); clear hf; intro w' _; simp only [execOp, resolve, invoke, rhoF_tmp, rhoF_func, rhoF_const, u123, u124, List.map_toArray, List.map_cons, List.map_nil]; go_simp
      · clear k8_b2_0 g8_b2_0 k8_b2_1 g8_b2_1 k8_b3_0 g8_b3_0 k8_b3_1 g8_b3_1 k8_g5_0 g8_g5_0 k8_g5_1 g8_g5_1 B8 z8; rintro w' ⟨h0, h1, h2, h3, h4, h5, h6, h7, h8, h9, h10, h11⟩; exact l1 _
      refine obe_val (by rfl) ?_ ?_
      · clear k8_b2_0 g8_b2_0 k8_b2_1 g8_b2_1 k8_b3_0 g8_b3_0 k8_b3_1 g8_b3_1 k8_g5_0 g8_g5_0 k8_g5_1 g8_g5_1 B8 z8; intro f hf; have u125 : f 125 = (.bool true) := (by rw [← hf]; rfl); clear hf; rintro w' ⟨h0, h1, h2, h3, h4, h5, h6, h7, h8, h9, h10, h11⟩; go_simp; try exact IntWalk.i64_in _ (by omega)
      refine obe_val (by rfl) ?_ ?_
      · clear k8_b2_0 g8_b2_0 k8_b2_1 g8_b2_1 k8_b3_0 g8_b3_0 k8_b3_1 g8_b3_1 k8_g5_0 g8_g5_0 k8_g5_1 g8_g5_1 B8 z8; intro f hf; have u3 : f 3 = (.pointer (some ⟨w.heap.size + 1, 0, none⟩)) := (by rw [← hf]; rfl); clear hf; rintro w' ⟨h0, h1, h2, h3, h4, h5, h6, h7, h8, h9, h10, h11⟩; go_simp; try exact IntWalk.i64_in _ (by omega)
      refine obe_val (by rfl) ?_ ?_
      · clear k8_b2_0 g8_b2_0 k8_b2_1 g8_b2_1 k8_b3_0 g8_b3_0 k8_b3_1 g8_b3_1 k8_g5_0 g8_g5_0 k8_g5_1 g8_g5_1 B8 z8; intro f hf; have u2 : f 2 = (.pointer (some ⟨w.heap.size, 0, none⟩)) := (by rw [← hf]; rfl); clear hf; rintro w' ⟨h0, h1, h2, h3, h4, h5, h6, h7, h8, h9, h10, h11⟩; go_simp; try exact IntWalk.i64_in _ (by omega)
      refine obe_call (by rfl) ?_ ?_ ?_
      · clear k8_b2_0 g8_b2_0 k8_b2_1 g8_b2_1 k8_b3_0 g8_b3_0 k8_b3_1 g8_b3_1 k8_g5_0 g8_g5_0 k8_g5_1 g8_g5_1 B8 z8; intro f hf; have u127 : f 127 = (.agg #[.int .i64 u, .int .i64 v]) := (by rw [← hf]; rfl); have u128 : f 128 = (.agg #[.int .i64 x, .int .i64 y]) := (by rw [← hf]; rfl); clear hf; intro w' _; simp only [execOp, resolve, invoke, rhoF_tmp, rhoF_func, rhoF_const, u127, u128, List.map_toArray, List.map_cons, List.map_nil]; go_simp
      · clear k8_b2_0 g8_b2_0 k8_b2_1 g8_b2_1 k8_b3_0 g8_b3_0 k8_b3_1 g8_b3_1 k8_g5_0 g8_g5_0 k8_g5_1 g8_g5_1 B8 z8; rintro w' ⟨h0, h1, h2, h3, h4, h5, h6, h7, h8, h9, h10, h11⟩; exact l2 _
      refine obe_val (by rfl) ?_ ?_
      · clear k8_b2_0 g8_b2_0 k8_b2_1 g8_b2_1 k8_b3_0 g8_b3_0 k8_b3_1 g8_b3_1 k8_g5_0 g8_g5_0 k8_g5_1 g8_g5_1 B8 z8; intro f hf; have u126 : f 126 = (.bool true) := (by rw [← hf]; rfl); have u129 : f 129 = (.bool false) := (by rw [← hf]; rfl); clear hf; rintro w' ⟨h0, h1, h2, h3, h4, h5, h6, h7, h8, h9, h10, h11⟩; go_simp; try exact IntWalk.i64_in _ (by omega)
      refine obe_val (by rfl) ?_ ?_
      · clear k8_b2_0 g8_b2_0 k8_b2_1 g8_b2_1 k8_b3_0 g8_b3_0 k8_b3_1 g8_b3_1 k8_g5_0 g8_g5_0 k8_g5_1 g8_g5_1 B8 z8; intro f hf; have u130 : f 130 = (.bool false) := (by rw [← hf]; rfl); clear hf; rintro w' ⟨h0, h1, h2, h3, h4, h5, h6, h7, h8, h9, h10, h11⟩; go_simp; try exact IntWalk.i64_in _ (by omega)
      refine obe_val (by rfl) ?_ ?_
      · clear k8_b2_0 g8_b2_0 k8_b2_1 g8_b2_1 k8_b3_0 g8_b3_0 k8_b3_1 g8_b3_1 k8_g5_0 g8_g5_0 k8_g5_1 g8_g5_1 B8 z8; intro f hf; have u122 : f 122 = (.bool true) := (by rw [← hf]; rfl); have u131 : f 131 = (.bool true) := (by rw [← hf]; rfl); clear hf; rintro w' ⟨h0, h1, h2, h3, h4, h5, h6, h7, h8, h9, h10, h11⟩; go_simp; try exact IntWalk.i64_in _ (by omega)
      refine obe_val (by rfl) ?_ ?_
      · clear k8_b2_0 g8_b2_0 k8_b2_1 g8_b2_1 k8_b3_0 g8_b3_0 k8_b3_1 g8_b3_1 k8_g5_0 g8_g5_0 k8_g5_1 g8_g5_1 B8 z8; intro f hf; have u132 : f 132 = (.bool true) := (by rw [← hf]; rfl); clear hf; rintro w' ⟨h0, h1, h2, h3, h4, h5, h6, h7, h8, h9, h10, h11⟩; go_simp; try exact IntWalk.i64_in _ (by omega)
      refine obe_call (by rfl) ?_ ?_ ?_
      · clear k8_b2_0 g8_b2_0 k8_b2_1 g8_b2_1 k8_b3_0 g8_b3_0 k8_b3_1 g8_b3_1 k8_g5_0 g8_g5_0 k8_g5_1 g8_g5_1 B8 z8; intro f hf; clear hf; intro w' _; simp only [execOp, resolve, invoke, rhoF_tmp, rhoF_func, rhoF_const, List.map_toArray, List.map_cons, List.map_nil]; go_simp
      · clear k8_b2_0 g8_b2_0 k8_b2_1 g8_b2_1 k8_b3_0 g8_b3_0 k8_b3_1 g8_b3_1 k8_g5_0 g8_g5_0 k8_g5_1 g8_g5_1 B8 z8; rintro w' ⟨h0, h1, h2, h3, h4, h5, h6, h7, h8, h9, h10, h11⟩; exact example_any _
      refine obe_val (by rfl) ?_ ?_
      · clear k8_b2_0 g8_b2_0 k8_b2_1 g8_b2_1 k8_b3_0 g8_b3_0 k8_b3_1 g8_b3_1 k8_g5_0 g8_g5_0 k8_g5_1 g8_g5_1 B8 z8; intro f hf; have u133 : f 133 = (.bool true) := (by rw [← hf]; rfl); have u134 : f 134 = (.bool true) := (by rw [← hf]; rfl); clear hf; rintro w' ⟨h0, h1, h2, h3, h4, h5, h6, h7, h8, h9, h10, h11⟩; go_simp; try exact IntWalk.i64_in _ (by omega)
      refine obe_val (by rfl) ?_ ?_
      · clear k8_b2_0 g8_b2_0 k8_b2_1 g8_b2_1 k8_b3_0 g8_b3_0 k8_b3_1 g8_b3_1 k8_g5_0 g8_g5_0 k8_g5_1 g8_g5_1 B8 z8; intro f hf; have u135 : f 135 = (.bool true) := (by rw [← hf]; rfl); clear hf; rintro w' ⟨h0, h1, h2, h3, h4, h5, h6, h7, h8, h9, h10, h11⟩; go_simp; try exact IntWalk.i64_in _ (by omega)
      refine obe_nil ?_
      rintro w9 ⟨h0, h1, h2, h3, h4, h5, h6, h7, h8, h9, h10, h11⟩ hb9 hF
      (try simp only [List.nil_append, List.append_nil, List.cons_append] at hF)
      simp only [puts, putD, Act.put, List.setIfInBounds_toArray, List.set_cons_zero, List.set_cons_succ]
      clear hF
      have k9_b2_0 := bcs hb9 k8_b2_0
      have g9_b2_0 := bfs hb9 k8_b2_0 g8_b2_0
      have k9_b2_1 := bcs hb9 k8_b2_1
      have g9_b2_1 := bfs hb9 k8_b2_1 g8_b2_1
      have k9_b3_0 := bcs hb9 k8_b3_0
      have g9_b3_0 := bfs hb9 k8_b3_0 g8_b3_0
      have k9_b3_1 := bcs hb9 k8_b3_1
      have g9_b3_1 := bfs hb9 k8_b3_1 g8_b3_1
      have k9_g5_0 := bcs hb9 k8_g5_0
      have g9_g5_0 := bfs hb9 k8_g5_0 g8_g5_0
      have k9_g5_1 := bcs hb9 k8_g5_1
      have g9_g5_1 := bfs hb9 k8_g5_1 g8_g5_1
      clear h0 h1 h2 h3 h4 h5 h6 h7 h8 h9 h10 h11
      have B9 := bel_step B8 hb9
      have z9 := Nat.le_trans z8 hb9.size
      clear hb9
      (try clear B8)
      (try clear z8)
      (try clear k8_b2_0)
      (try clear g8_b2_0)
      (try clear k8_b2_1)
      (try clear g8_b2_1)
      (try clear k8_b3_0)
      (try clear g8_b3_0)
      (try clear k8_b3_1)
      (try clear g8_b3_1)
      (try clear k8_g5_0)
      (try clear g8_g5_0)
      (try clear k8_g5_1)
      (try clear g8_g5_1)
      (try clear q8_b2)
      (try clear x8_b2)
      (try clear y8_b2)
      (try clear q8_b3)
      (try clear x8_b3)
      (try clear y8_b3)
      (try clear q8_g5)
      (try clear x8_g5)
      (try clear y8_g5)
      have q9_b2 : w.heap.size < w9.heap.size := qlt k9_b2_0
      have x9_b2 : ¬ w.heap.size = w9.heap.size := qne k9_b2_0
      have y9_b2 : ¬ w9.heap.size = w.heap.size := fun h => qne k9_b2_0 h.symm
      have q9_b3 : w.heap.size + 1 < w9.heap.size := qlt k9_b3_0
      have x9_b3 : ¬ w.heap.size + 1 = w9.heap.size := qne k9_b3_0
      have y9_b3 : ¬ w9.heap.size = w.heap.size + 1 := fun h => qne k9_b3_0 h.symm
      have q9_g5 : w3.heap.size < w9.heap.size := qlt k9_g5_0
      have x9_g5 : ¬ w3.heap.size = w9.heap.size := qne k9_g5_0
      have y9_g5 : ¬ w9.heap.size = w3.heap.size := fun h => qne k9_g5_0 h.symm
      unfold wpList
      go_wp2
      go_ret
      refine ⟨rfl, ?_⟩
      repeat (first | with_reducible exact Below.refl _ _ | with_reducible exact B9 | with_reducible apply below_drewN | with_reducible apply Below.drew | (with_reducible refine Below.alloc ?_ (by first | (simp; done) | (simp; omega) | omega) _) | (with_reducible refine Below.setCell ?_ (by first | (simp; done) | (simp; omega) | omega) _))
    · rw [j1] at l1
      rw [j2] at l2
      rw [j3] at nq
      clear j1 j2 j3
      refine wp_region_env (fun w' => w'.cell? ⟨w.heap.size, 0, none⟩ = some (.int .i64 x) ∧ w'.frozen? ⟨w.heap.size, 0, none⟩ = false ∧ w'.cell? ⟨w.heap.size, 1, none⟩ = some (.int .i64 y) ∧ w'.frozen? ⟨w.heap.size, 1, none⟩ = false ∧ w'.cell? ⟨w.heap.size + 1, 0, none⟩ = some (.int .i64 u) ∧ w'.frozen? ⟨w.heap.size + 1, 0, none⟩ = false ∧ w'.cell? ⟨w.heap.size + 1, 1, none⟩ = some (.int .i64 v) ∧ w'.frozen? ⟨w.heap.size + 1, 1, none⟩ = false ∧ w'.cell? ⟨w3.heap.size, 0, none⟩ = some (.int .i64 (-y)) ∧ w'.frozen? ⟨w3.heap.size, 0, none⟩ = false ∧ w'.cell? ⟨w3.heap.size, 1, none⟩ = some (.int .i64 x) ∧ w'.frozen? ⟨w3.heap.size, 1, none⟩ = false) (fun W => W.cell? ⟨w.heap.size, 0, none⟩ = some (.int .i64 x) ∧ W.frozen? ⟨w.heap.size, 0, none⟩ = false ∧ W.cell? ⟨w.heap.size, 1, none⟩ = some (.int .i64 y) ∧ W.frozen? ⟨w.heap.size, 1, none⟩ = false ∧ W.cell? ⟨w.heap.size + 1, 0, none⟩ = some (.int .i64 u) ∧ W.frozen? ⟨w.heap.size + 1, 0, none⟩ = false ∧ W.cell? ⟨w.heap.size + 1, 1, none⟩ = some (.int .i64 v) ∧ W.frozen? ⟨w.heap.size + 1, 1, none⟩ = false ∧ W.cell? ⟨w3.heap.size, 0, none⟩ = some (.int .i64 (-y)) ∧ W.frozen? ⟨w3.heap.size, 0, none⟩ = false ∧ W.cell? ⟨w3.heap.size, 1, none⟩ = some (.int .i64 x) ∧ W.frozen? ⟨w3.heap.size, 1, none⟩ = false ∧ Below w.heap.size w W ∧ w.heap.size + 1 + 1 ≤ W.heap.size) 57 136 [.val (.int .i64 r), .val (.bool true), .val (.bool true), .val (.int .i64 r), .val (.bool true), .val (.bool true), .val (.bool true), .val (.int .i64 r), .val (.int .i64 r), .val (.int .i64 (r * r)), .val (.int .i64 (65536 * G)), .val (.bool true), .val (.bool true), .val (.bool true), .val (.int .i64 r), .val (.int .i64 (r + 1)), .val (.int .i64 r), .val (.int .i64 (r + 1)), .val (.int .i64 ((r + 1) * (r + 1))), .val (.int .i64 (65536 * G)), .val (.bool true), .val (.bool true), .val (.bool true), .val (.agg #[.int .i64 (-y), .int .i64 x]), .call 21 #[.agg #[.int .i64 (-y), .int .i64 x]] (.int .i64 r), .val (.int .i64 r), .val (.bool true), .val (.bool true), .val (.bool true), .val (.agg #[.int .i64 x, .int .i64 y]), .val (.agg #[.int .i64 u, .int .i64 v]), .call 23 #[.agg #[.int .i64 x, .int .i64 y], .agg #[.int .i64 u, .int .i64 v]] (.bool false), .val (.bool false), .val (.agg #[.int .i64 u, .int .i64 v]), .val (.agg #[.int .i64 x, .int .i64 y]), .call 23 #[.agg #[.int .i64 u, .int .i64 v], .agg #[.int .i64 x, .int .i64 y]] (.bool true), .val (.bool true), .val (.agg #[.int .i64 x, .int .i64 y]), .val (.agg #[.int .i64 u, .int .i64 v]), .val (.bool true), .val (.bool true), .val (.bool true), .val (.bool true), .val (.agg #[.int .i64 x, .int .i64 y]), .val (.agg #[.int .i64 u, .int .i64 v]), .call 23 #[.agg #[.int .i64 x, .int .i64 y], .agg #[.int .i64 u, .int .i64 v]] (.bool false), .val (.bool false), .skip, .skip, .skip, .val (.bool false), .val (.bool true), .val (.bool true), .val (.bool true), .call 25 #[] (.bool true), .val (.bool true), .val (.bool true)] (by kernel_rfl) (by kernel_rfl) rfl (by kernel_rfl) (by rintro w1 w2 ⟨h0, h1, h2, h3, h4, h5, h6, h7, h8, h9, h10, h11⟩ hb; exact ⟨bcs hb h0, bfs hb h0 h1, bcs hb h2, bfs hb h2 h3, bcs hb h4, bfs hb h4 h5, bcs hb h6, bfs hb h6 h7, bcs hb h8, bfs hb h8 h9, bcs hb h10, bfs hb h10 h11⟩) ⟨by first | with_reducible assumption | go_simp, by first | with_reducible assumption | go_simp, by first | with_reducible assumption | go_simp, by first | with_reducible assumption | go_simp, by first | with_reducible assumption | go_simp, by first | with_reducible assumption | go_simp, by first | with_reducible assumption | go_simp, by first | with_reducible assumption | go_simp, by first | with_reducible assumption | go_simp, by first | with_reducible assumption | go_simp, by first | with_reducible assumption | go_simp, by first | with_reducible assumption | go_simp, by repeat (first | with_reducible exact Below.refl _ _ | with_reducible exact B7 | with_reducible apply below_drewN | with_reducible apply Below.drew | (with_reducible refine Below.alloc ?_ (by first | (simp; done) | (simp; omega) | omega) _) | (with_reducible refine Below.setCell ?_ (by first | (simp; done) | (simp; omega) | omega) _)), by first | with_reducible assumption | (simp; done) | (simp; omega)⟩ ?_ ?_
      · rintro W ⟨k8_b2_0, g8_b2_0, k8_b2_1, g8_b2_1, k8_b3_0, g8_b3_0, k8_b3_1, g8_b3_1, k8_g5_0, g8_g5_0, k8_g5_1, g8_g5_1, B8, z8⟩; exact ⟨k8_b2_0, g8_b2_0, k8_b2_1, g8_b2_1, k8_b3_0, g8_b3_0, k8_b3_1, g8_b3_1, k8_g5_0, g8_g5_0, k8_g5_1, g8_g5_1⟩
      (try clear B7)
      (try clear z7)
      (try clear k7_b2_0)
      (try clear g7_b2_0)
      (try clear k7_b2_1)
      (try clear g7_b2_1)
      (try clear k7_b3_0)
      (try clear g7_b3_0)
      (try clear k7_b3_1)
      (try clear g7_b3_1)
      (try clear k7_g5_0)
      (try clear g7_g5_0)
      (try clear k7_g5_1)
      (try clear g7_g5_1)
      (try clear q7_b2)
      (try clear x7_b2)
      (try clear y7_b2)
      (try clear q7_b3)
      (try clear x7_b3)
      (try clear y7_b3)
      (try clear q7_g5)
      (try clear x7_g5)
      (try clear y7_g5)
      rintro w8 ⟨k8_b2_0, g8_b2_0, k8_b2_1, g8_b2_1, k8_b3_0, g8_b3_0, k8_b3_1, g8_b3_1, k8_g5_0, g8_g5_0, k8_g5_1, g8_g5_1, B8, z8⟩ gg
      simp only [List.take_succ_cons, List.take_zero, List.drop_succ_cons, List.drop_zero, List.cons_append, List.nil_append, List.append_nil]
      refine obe_val (by rfl) ?_ ?_
      · clear k8_b2_0 g8_b2_0 k8_b2_1 g8_b2_1 k8_b3_0 g8_b3_0 k8_b3_1 g8_b3_1 k8_g5_0 g8_g5_0 k8_g5_1 g8_g5_1 B8 z8; intro f hf; have u6 : f 6 = (.int .i64 r) := (by rw [← hf]; rfl); clear hf; rintro w' ⟨h0, h1, h2, h3, h4, h5, h6, h7, h8, h9, h10, h11⟩; go_simp; try exact IntWalk.i64_in _ (by omega)
      refine obe_val (by rfl) ?_ ?_
      · clear k8_b2_0 g8_b2_0 k8_b2_1 g8_b2_1 k8_b3_0 g8_b3_0 k8_b3_1 g8_b3_1 k8_g5_0 g8_g5_0 k8_g5_1 g8_g5_1 B8 z8; intro f hf; have u80 : f 80 = (.int .i64 r) := (by rw [← hf]; rfl); clear hf; rintro w' ⟨h0, h1, h2, h3, h4, h5, h6, h7, h8, h9, h10, h11⟩; go_simp; try exact IntWalk.i64_in _ (by omega)
      refine obe_val (by rfl) ?_ ?_
      · clear k8_b2_0 g8_b2_0 k8_b2_1 g8_b2_1 k8_b3_0 g8_b3_0 k8_b3_1 g8_b3_1 k8_g5_0 g8_g5_0 k8_g5_1 g8_g5_1 B8 z8; intro f hf; have u81 : f 81 = (.bool true) := (by rw [← hf]; rfl); clear hf; rintro w' ⟨h0, h1, h2, h3, h4, h5, h6, h7, h8, h9, h10, h11⟩; go_simp; try exact IntWalk.i64_in _ (by omega)
      refine obe_val (by rfl) ?_ ?_
      · clear k8_b2_0 g8_b2_0 k8_b2_1 g8_b2_1 k8_b3_0 g8_b3_0 k8_b3_1 g8_b3_1 k8_g5_0 g8_g5_0 k8_g5_1 g8_g5_1 B8 z8; intro f hf; have u6 : f 6 = (.int .i64 r) := (by rw [← hf]; rfl); clear hf; rintro w' ⟨h0, h1, h2, h3, h4, h5, h6, h7, h8, h9, h10, h11⟩; go_simp; try exact IntWalk.i64_in _ (by omega)
      refine obe_val (by rfl) ?_ ?_
      · clear k8_b2_0 g8_b2_0 k8_b2_1 g8_b2_1 k8_b3_0 g8_b3_0 k8_b3_1 g8_b3_1 k8_g5_0 g8_g5_0 k8_g5_1 g8_g5_1 B8 z8; intro f hf; have u83 : f 83 = (.int .i64 r) := (by rw [← hf]; rfl); clear hf; rintro w' ⟨h0, h1, h2, h3, h4, h5, h6, h7, h8, h9, h10, h11⟩; go_simp; try exact IntWalk.i64_in _ (by omega)
      refine obe_val (by rfl) ?_ ?_
      · clear k8_b2_0 g8_b2_0 k8_b2_1 g8_b2_1 k8_b3_0 g8_b3_0 k8_b3_1 g8_b3_1 k8_g5_0 g8_g5_0 k8_g5_1 g8_g5_1 B8 z8; intro f hf; have u82 : f 82 = (.bool true) := (by rw [← hf]; rfl); have u84 : f 84 = (.bool true) := (by rw [← hf]; rfl); clear hf; rintro w' ⟨h0, h1, h2, h3, h4, h5, h6, h7, h8, h9, h10, h11⟩; go_simp; try exact IntWalk.i64_in _ (by omega)
      refine obe_val (by rfl) ?_ ?_
      · clear k8_b2_0 g8_b2_0 k8_b2_1 g8_b2_1 k8_b3_0 g8_b3_0 k8_b3_1 g8_b3_1 k8_g5_0 g8_g5_0 k8_g5_1 g8_g5_1 B8 z8; intro f hf; have u85 : f 85 = (.bool true) := (by rw [← hf]; rfl); clear hf; rintro w' ⟨h0, h1, h2, h3, h4, h5, h6, h7, h8, h9, h10, h11⟩; go_simp; try exact IntWalk.i64_in _ (by omega)
      refine obe_val (by rfl) ?_ ?_
      · clear k8_b2_0 g8_b2_0 k8_b2_1 g8_b2_1 k8_b3_0 g8_b3_0 k8_b3_1 g8_b3_1 k8_g5_0 g8_g5_0 k8_g5_1 g8_g5_1 B8 z8; intro f hf; have u6 : f 6 = (.int .i64 r) := (by rw [← hf]; rfl); clear hf; rintro w' ⟨h0, h1, h2, h3, h4, h5, h6, h7, h8, h9, h10, h11⟩; go_simp; try exact IntWalk.i64_in _ (by omega)
      refine obe_val (by rfl) ?_ ?_
      · clear k8_b2_0 g8_b2_0 k8_b2_1 g8_b2_1 k8_b3_0 g8_b3_0 k8_b3_1 g8_b3_1 k8_g5_0 g8_g5_0 k8_g5_1 g8_g5_1 B8 z8; intro f hf; have u6 : f 6 = (.int .i64 r) := (by rw [← hf]; rfl); clear hf; rintro w' ⟨h0, h1, h2, h3, h4, h5, h6, h7, h8, h9, h10, h11⟩; go_simp; try exact IntWalk.i64_in _ (by omega)
      refine obe_val (by rfl) ?_ ?_
      · clear k8_b2_0 g8_b2_0 k8_b2_1 g8_b2_1 k8_b3_0 g8_b3_0 k8_b3_1 g8_b3_1 k8_g5_0 g8_g5_0 k8_g5_1 g8_g5_1 B8 z8; intro f hf; have u87 : f 87 = (.int .i64 r) := (by rw [← hf]; rfl); have u88 : f 88 = (.int .i64 r) := (by rw [← hf]; rfl); clear hf; rintro w' ⟨h0, h1, h2, h3, h4, h5, h6, h7, h8, h9, h10, h11⟩; go_simp; try exact IntWalk.i64_in _ (by omega)
      refine obe_val (by rfl) ?_ ?_
      · clear k8_b2_0 g8_b2_0 k8_b2_1 g8_b2_1 k8_b3_0 g8_b3_0 k8_b3_1 g8_b3_1 k8_g5_0 g8_g5_0 k8_g5_1 g8_g5_1 B8 z8; intro f hf; have u7 : f 7 = (.int .i64 (65536 * G)) := (by rw [← hf]; rfl); clear hf; rintro w' ⟨h0, h1, h2, h3, h4, h5, h6, h7, h8, h9, h10, h11⟩; go_simp; try exact IntWalk.i64_in _ (by omega)
      refine obe_val (by rfl) ?_ ?_
      · clear k8_b2_0 g8_b2_0 k8_b2_1 g8_b2_1 k8_b3_0 g8_b3_0 k8_b3_1 g8_b3_1 k8_g5_0 g8_g5_0 k8_g5_1 g8_g5_1 B8 z8; intro f hf; have u89 : f 89 = (.int .i64 (r * r)) := (by rw [← hf]; rfl); have u90 : f 90 = (.int .i64 (65536 * G)) := (by rw [← hf]; rfl); clear hf; rintro w' ⟨h0, h1, h2, h3, h4, h5, h6, h7, h8, h9, h10, h11⟩; go_simp; try exact IntWalk.i64_in _ (by omega)
      refine obe_val (by rfl) ?_ ?_
      · clear k8_b2_0 g8_b2_0 k8_b2_1 g8_b2_1 k8_b3_0 g8_b3_0 k8_b3_1 g8_b3_1 k8_g5_0 g8_g5_0 k8_g5_1 g8_g5_1 B8 z8; intro f hf; have u86 : f 86 = (.bool true) := (by rw [← hf]; rfl); have u91 : f 91 = (.bool true) := (by rw [← hf]; rfl); clear hf; rintro w' ⟨h0, h1, h2, h3, h4, h5, h6, h7, h8, h9, h10, h11⟩; go_simp; try exact IntWalk.i64_in _ (by omega)
      refine obe_val (by rfl) ?_ ?_
      · clear k8_b2_0 g8_b2_0 k8_b2_1 g8_b2_1 k8_b3_0 g8_b3_0 k8_b3_1 g8_b3_1 k8_g5_0 g8_g5_0 k8_g5_1 g8_g5_1 B8 z8; intro f hf; have u92 : f 92 = (.bool true) := (by rw [← hf]; rfl); clear hf; rintro w' ⟨h0, h1, h2, h3, h4, h5, h6, h7, h8, h9, h10, h11⟩; go_simp; try exact IntWalk.i64_in _ (by omega)
      refine obe_val (by rfl) ?_ ?_
      · clear k8_b2_0 g8_b2_0 k8_b2_1 g8_b2_1 k8_b3_0 g8_b3_0 k8_b3_1 g8_b3_1 k8_g5_0 g8_g5_0 k8_g5_1 g8_g5_1 B8 z8; intro f hf; have u6 : f 6 = (.int .i64 r) := (by rw [← hf]; rfl); clear hf; rintro w' ⟨h0, h1, h2, h3, h4, h5, h6, h7, h8, h9, h10, h11⟩; go_simp; try exact IntWalk.i64_in _ (by omega)
      refine obe_val (by rfl) ?_ ?_
      · clear k8_b2_0 g8_b2_0 k8_b2_1 g8_b2_1 k8_b3_0 g8_b3_0 k8_b3_1 g8_b3_1 k8_g5_0 g8_g5_0 k8_g5_1 g8_g5_1 B8 z8; intro f hf; have u94 : f 94 = (.int .i64 r) := (by rw [← hf]; rfl); clear hf; rintro w' ⟨h0, h1, h2, h3, h4, h5, h6, h7, h8, h9, h10, h11⟩; go_simp; try exact IntWalk.i64_in _ (by omega)
      refine obe_val (by rfl) ?_ ?_
      · clear k8_b2_0 g8_b2_0 k8_b2_1 g8_b2_1 k8_b3_0 g8_b3_0 k8_b3_1 g8_b3_1 k8_g5_0 g8_g5_0 k8_g5_1 g8_g5_1 B8 z8; intro f hf; have u6 : f 6 = (.int .i64 r) := (by rw [← hf]; rfl); clear hf; rintro w' ⟨h0, h1, h2, h3, h4, h5, h6, h7, h8, h9, h10, h11⟩; go_simp; try exact IntWalk.i64_in _ (by omega)
      refine obe_val (by rfl) ?_ ?_
      · clear k8_b2_0 g8_b2_0 k8_b2_1 g8_b2_1 k8_b3_0 g8_b3_0 k8_b3_1 g8_b3_1 k8_g5_0 g8_g5_0 k8_g5_1 g8_g5_1 B8 z8; intro f hf; have u96 : f 96 = (.int .i64 r) := (by rw [← hf]; rfl); clear hf; rintro w' ⟨h0, h1, h2, h3, h4, h5, h6, h7, h8, h9, h10, h11⟩; go_simp; try exact IntWalk.i64_in _ (by omega)
      refine obe_val (by rfl) ?_ ?_
      · clear k8_b2_0 g8_b2_0 k8_b2_1 g8_b2_1 k8_b3_0 g8_b3_0 k8_b3_1 g8_b3_1 k8_g5_0 g8_g5_0 k8_g5_1 g8_g5_1 B8 z8; intro f hf; have u95 : f 95 = (.int .i64 (r + 1)) := (by rw [← hf]; rfl); have u97 : f 97 = (.int .i64 (r + 1)) := (by rw [← hf]; rfl); clear hf; rintro w' ⟨h0, h1, h2, h3, h4, h5, h6, h7, h8, h9, h10, h11⟩; go_simp; try exact IntWalk.i64_in _ (by omega)
      refine obe_val (by rfl) ?_ ?_
      · clear k8_b2_0 g8_b2_0 k8_b2_1 g8_b2_1 k8_b3_0 g8_b3_0 k8_b3_1 g8_b3_1 k8_g5_0 g8_g5_0 k8_g5_1 g8_g5_1 B8 z8; intro f hf; have u7 : f 7 = (.int .i64 (65536 * G)) := (by rw [← hf]; rfl); clear hf; rintro w' ⟨h0, h1, h2, h3, h4, h5, h6, h7, h8, h9, h10, h11⟩; go_simp; try exact IntWalk.i64_in _ (by omega)
      refine obe_val (by rfl) ?_ ?_
      · clear k8_b2_0 g8_b2_0 k8_b2_1 g8_b2_1 k8_b3_0 g8_b3_0 k8_b3_1 g8_b3_1 k8_g5_0 g8_g5_0 k8_g5_1 g8_g5_1 B8 z8; intro f hf; have u98 : f 98 = (.int .i64 ((r + 1) * (r + 1))) := (by rw [← hf]; rfl); have u99 : f 99 = (.int .i64 (65536 * G)) := (by rw [← hf]; rfl); clear hf; rintro w' ⟨h0, h1, h2, h3, h4, h5, h6, h7, h8, h9, h10, h11⟩; go_simp; try exact IntWalk.i64_in _ (by omega)
      refine obe_val (by rfl) ?_ ?_
      · clear k8_b2_0 g8_b2_0 k8_b2_1 g8_b2_1 k8_b3_0 g8_b3_0 k8_b3_1 g8_b3_1 k8_g5_0 g8_g5_0 k8_g5_1 g8_g5_1 B8 z8; intro f hf; have u93 : f 93 = (.bool true) := (by rw [← hf]; rfl); have u100 : f 100 = (.bool true) := (by rw [← hf]; rfl); clear hf; rintro w' ⟨h0, h1, h2, h3, h4, h5, h6, h7, h8, h9, h10, h11⟩; go_simp; try exact IntWalk.i64_in _ (by omega)
      refine obe_val (by rfl) ?_ ?_
      · clear k8_b2_0 g8_b2_0 k8_b2_1 g8_b2_1 k8_b3_0 g8_b3_0 k8_b3_1 g8_b3_1 k8_g5_0 g8_g5_0 k8_g5_1 g8_g5_1 B8 z8; intro f hf; have u101 : f 101 = (.bool true) := (by rw [← hf]; rfl); clear hf; rintro w' ⟨h0, h1, h2, h3, h4, h5, h6, h7, h8, h9, h10, h11⟩; go_simp; try exact IntWalk.i64_in _ (by omega)
      refine obe_val (by rfl) ?_ ?_
      · clear k8_b2_0 g8_b2_0 k8_b2_1 g8_b2_1 k8_b3_0 g8_b3_0 k8_b3_1 g8_b3_1 k8_g5_0 g8_g5_0 k8_g5_1 g8_g5_1 B8 z8; intro f hf; have u5 : f 5 = (.pointer (some ⟨w3.heap.size, 0, none⟩)) := (by rw [← hf]; rfl); clear hf; rintro w' ⟨h0, h1, h2, h3, h4, h5, h6, h7, h8, h9, h10, h11⟩; go_simp; try exact IntWalk.i64_in _ (by omega)
      refine obe_call (by rfl) ?_ ?_ ?_
      · clear k8_b2_0 g8_b2_0 k8_b2_1 g8_b2_1 k8_b3_0 g8_b3_0 k8_b3_1 g8_b3_1 k8_g5_0 g8_g5_0 k8_g5_1 g8_g5_1 B8 z8; intro f hf; have u103 : f 103 = (.agg #[.int .i64 (-y), .int .i64 x]) := (by rw [← hf]; rfl); clear hf; intro w' _; simp only [execOp, resolve, invoke, rhoF_tmp, rhoF_func, rhoF_const, u103, List.map_toArray, List.map_cons, List.map_nil]; go_simp
      · clear k8_b2_0 g8_b2_0 k8_b2_1 g8_b2_1 k8_b3_0 g8_b3_0 k8_b3_1 g8_b3_1 k8_g5_0 g8_g5_0 k8_g5_1 g8_g5_1 B8 z8; rintro w' ⟨h0, h1, h2, h3, h4, h5, h6, h7, h8, h9, h10, h11⟩; exact n2 _
      refine obe_val (by rfl) ?_ ?_
      · clear k8_b2_0 g8_b2_0 k8_b2_1 g8_b2_1 k8_b3_0 g8_b3_0 k8_b3_1 g8_b3_1 k8_g5_0 g8_g5_0 k8_g5_1 g8_g5_1 B8 z8; intro f hf; have u6 : f 6 = (.int .i64 r) := (by rw [← hf]; rfl); clear hf; rintro w' ⟨h0, h1, h2, h3, h4, h5, h6, h7, h8, h9, h10, h11⟩; go_simp; try exact IntWalk.i64_in _ (by omega)
      refine obe_val (by rfl) ?_ ?_
      · clear k8_b2_0 g8_b2_0 k8_b2_1 g8_b2_1 k8_b3_0 g8_b3_0 k8_b3_1 g8_b3_1 k8_g5_0 g8_g5_0 k8_g5_1 g8_g5_1 B8 z8; intro f hf; have u104 : f 104 = (.int .i64 r) := (by rw [← hf]; rfl); have u105 : f 105 = (.int .i64 r) := (by rw [← hf]; rfl); clear hf; rintro w' ⟨h0, h1, h2, h3, h4, h5, h6, h7, h8, h9, h10, h11⟩; go_simp; try exact IntWalk.i64_in _ (by omega)
      refine obe_val (by rfl) ?_ ?_
      · clear k8_b2_0 g8_b2_0 k8_b2_1 g8_b2_1 k8_b3_0 g8_b3_0 k8_b3_1 g8_b3_1 k8_g5_0 g8_g5_0 k8_g5_1 g8_g5_1 B8 z8; intro f hf; have u102 : f 102 = (.bool true) := (by rw [← hf]; rfl); have u106 : f 106 = (.bool true) := (by rw [← hf]; rfl); clear hf; rintro w' ⟨h0, h1, h2, h3, h4, h5, h6, h7, h8, h9, h10, h11⟩; go_simp; try exact IntWalk.i64_in _ (by omega)
      refine obe_val (by rfl) ?_ ?_
      · clear k8_b2_0 g8_b2_0 k8_b2_1 g8_b2_1 k8_b3_0 g8_b3_0 k8_b3_1 g8_b3_1 k8_g5_0 g8_g5_0 k8_g5_1 g8_g5_1 B8 z8; intro f hf; have u107 : f 107 = (.bool true) := (by rw [← hf]; rfl); clear hf; rintro w' ⟨h0, h1, h2, h3, h4, h5, h6, h7, h8, h9, h10, h11⟩; go_simp; try exact IntWalk.i64_in _ (by omega)
      refine obe_val (by rfl) ?_ ?_
      · clear k8_b2_0 g8_b2_0 k8_b2_1 g8_b2_1 k8_b3_0 g8_b3_0 k8_b3_1 g8_b3_1 k8_g5_0 g8_g5_0 k8_g5_1 g8_g5_1 B8 z8; intro f hf; have u2 : f 2 = (.pointer (some ⟨w.heap.size, 0, none⟩)) := (by rw [← hf]; rfl); clear hf; rintro w' ⟨h0, h1, h2, h3, h4, h5, h6, h7, h8, h9, h10, h11⟩; go_simp; try exact IntWalk.i64_in _ (by omega)
      refine obe_val (by rfl) ?_ ?_
      · clear k8_b2_0 g8_b2_0 k8_b2_1 g8_b2_1 k8_b3_0 g8_b3_0 k8_b3_1 g8_b3_1 k8_g5_0 g8_g5_0 k8_g5_1 g8_g5_1 B8 z8; intro f hf; have u3 : f 3 = (.pointer (some ⟨w.heap.size + 1, 0, none⟩)) := (by rw [← hf]; rfl); clear hf; rintro w' ⟨h0, h1, h2, h3, h4, h5, h6, h7, h8, h9, h10, h11⟩; go_simp; try exact IntWalk.i64_in _ (by omega)
      refine obe_call (by rfl) ?_ ?_ ?_
      · clear k8_b2_0 g8_b2_0 k8_b2_1 g8_b2_1 k8_b3_0 g8_b3_0 k8_b3_1 g8_b3_1 k8_g5_0 g8_g5_0 k8_g5_1 g8_g5_1 B8 z8; intro f hf; have u109 : f 109 = (.agg #[.int .i64 x, .int .i64 y]) := (by rw [← hf]; rfl); have u110 : f 110 = (.agg #[.int .i64 u, .int .i64 v]) := (by rw [← hf]; rfl); clear hf; intro w' _; simp only [execOp, resolve, invoke, rhoF_tmp, rhoF_func, rhoF_const, u109, u110, List.map_toArray, List.map_cons, List.map_nil]; go_simp
      · clear k8_b2_0 g8_b2_0 k8_b2_1 g8_b2_1 k8_b3_0 g8_b3_0 k8_b3_1 g8_b3_1 k8_g5_0 g8_g5_0 k8_g5_1 g8_g5_1 B8 z8; rintro w' ⟨h0, h1, h2, h3, h4, h5, h6, h7, h8, h9, h10, h11⟩; exact l1 _
      refine obe_val (by rfl) ?_ ?_
      · clear k8_b2_0 g8_b2_0 k8_b2_1 g8_b2_1 k8_b3_0 g8_b3_0 k8_b3_1 g8_b3_1 k8_g5_0 g8_g5_0 k8_g5_1 g8_g5_1 B8 z8; intro f hf; have u111 : f 111 = (.bool false) := (by rw [← hf]; rfl); clear hf; rintro w' ⟨h0, h1, h2, h3, h4, h5, h6, h7, h8, h9, h10, h11⟩; go_simp; try exact IntWalk.i64_in _ (by omega)
      refine obe_val (by rfl) ?_ ?_
      · clear k8_b2_0 g8_b2_0 k8_b2_1 g8_b2_1 k8_b3_0 g8_b3_0 k8_b3_1 g8_b3_1 k8_g5_0 g8_g5_0 k8_g5_1 g8_g5_1 B8 z8; intro f hf; have u3 : f 3 = (.pointer (some ⟨w.heap.size + 1, 0, none⟩)) := (by rw [← hf]; rfl); clear hf; rintro w' ⟨h0, h1, h2, h3, h4, h5, h6, h7, h8, h9, h10, h11⟩; go_simp; try exact IntWalk.i64_in _ (by omega)
      refine obe_val (by rfl) ?_ ?_
      · clear k8_b2_0 g8_b2_0 k8_b2_1 g8_b2_1 k8_b3_0 g8_b3_0 k8_b3_1 g8_b3_1 k8_g5_0 g8_g5_0 k8_g5_1 g8_g5_1 B8 z8; intro f hf; have u2 : f 2 = (.pointer (some ⟨w.heap.size, 0, none⟩)) := (by rw [← hf]; rfl); clear hf; rintro w' ⟨h0, h1, h2, h3, h4, h5, h6, h7, h8, h9, h10, h11⟩; go_simp; try exact IntWalk.i64_in _ (by omega)
      refine obe_call (by rfl) ?_ ?_ ?_
      · clear k8_b2_0 g8_b2_0 k8_b2_1 g8_b2_1 k8_b3_0 g8_b3_0 k8_b3_1 g8_b3_1 k8_g5_0 g8_g5_0 k8_g5_1 g8_g5_1 B8 z8; intro f hf; have u113 : f 113 = (.agg #[.int .i64 u, .int .i64 v]) := (by rw [← hf]; rfl); have u114 : f 114 = (.agg #[.int .i64 x, .int .i64 y]) := (by rw [← hf]; rfl); clear hf; intro w' _; simp only [execOp, resolve, invoke, rhoF_tmp, rhoF_func, rhoF_const, u113, u114, List.map_toArray, List.map_cons, List.map_nil]; go_simp
      · clear k8_b2_0 g8_b2_0 k8_b2_1 g8_b2_1 k8_b3_0 g8_b3_0 k8_b3_1 g8_b3_1 k8_g5_0 g8_g5_0 k8_g5_1 g8_g5_1 B8 z8; rintro w' ⟨h0, h1, h2, h3, h4, h5, h6, h7, h8, h9, h10, h11⟩; exact l2 _
      refine obe_val (by rfl) ?_ ?_
      · clear k8_b2_0 g8_b2_0 k8_b2_1 g8_b2_1 k8_b3_0 g8_b3_0 k8_b3_1 g8_b3_1 k8_g5_0 g8_g5_0 k8_g5_1 g8_g5_1 B8 z8; intro f hf; have u112 : f 112 = (.bool false) := (by rw [← hf]; rfl); have u115 : f 115 = (.bool true) := (by rw [← hf]; rfl); clear hf; rintro w' ⟨h0, h1, h2, h3, h4, h5, h6, h7, h8, h9, h10, h11⟩; go_simp; try exact IntWalk.i64_in _ (by omega)
      refine obe_val (by rfl) ?_ ?_
      · clear k8_b2_0 g8_b2_0 k8_b2_1 g8_b2_1 k8_b3_0 g8_b3_0 k8_b3_1 g8_b3_1 k8_g5_0 g8_g5_0 k8_g5_1 g8_g5_1 B8 z8; intro f hf; have u2 : f 2 = (.pointer (some ⟨w.heap.size, 0, none⟩)) := (by rw [← hf]; rfl); clear hf; rintro w' ⟨h0, h1, h2, h3, h4, h5, h6, h7, h8, h9, h10, h11⟩; go_simp; try exact IntWalk.i64_in _ (by omega)
      refine obe_val (by rfl) ?_ ?_
      · clear k8_b2_0 g8_b2_0 k8_b2_1 g8_b2_1 k8_b3_0 g8_b3_0 k8_b3_1 g8_b3_1 k8_g5_0 g8_g5_0 k8_g5_1 g8_g5_1 B8 z8; intro f hf; have u3 : f 3 = (.pointer (some ⟨w.heap.size + 1, 0, none⟩)) := (by rw [← hf]; rfl); clear hf; rintro w' ⟨h0, h1, h2, h3, h4, h5, h6, h7, h8, h9, h10, h11⟩; go_simp; try exact IntWalk.i64_in _ (by omega)
      refine obe_val (by rfl) ?_ ?_
      · clear k8_b2_0 g8_b2_0 k8_b2_1 g8_b2_1 k8_b3_0 g8_b3_0 k8_b3_1 g8_b3_1 k8_g5_0 g8_g5_0 k8_g5_1 g8_g5_1 B8 z8; intro f hf; have u117 : f 117 = (.agg #[.int .i64 x, .int .i64 y]) := (by rw [← hf]; rfl); have u118 : f 118 = (.agg #[.int .i64 u, .int .i64 v]) := (by rw [← hf]; rfl); clear hf; rintro w' ⟨h0, h1, h2, h3, h4, h5, h6, h7, h8, h9, h10, h11⟩; go_simp; try exact IntWalk.i64_in _ (by omega)
      refine obe_val (by rfl) ?_ ?_
      · clear k8_b2_0 g8_b2_0 k8_b2_1 g8_b2_1 k8_b3_0 g8_b3_0 k8_b3_1 g8_b3_1 k8_g5_0 g8_g5_0 k8_g5_1 g8_g5_1 B8 z8; intro f hf; have u116 : f 116 = (.bool true) := (by rw [← hf]; rfl); have u119 : f 119 = (.bool true) := (by rw [← hf]; rfl); clear hf; rintro w' ⟨h0, h1, h2, h3, h4, h5, h6, h7, h8, h9, h10, h11⟩; go_simp; try exact IntWalk.i64_in _ (by omega)
      refine obe_val (by rfl) ?_ ?_
      · clear k8_b2_0 g8_b2_0 k8_b2_1 g8_b2_1 k8_b3_0 g8_b3_0 k8_b3_1 g8_b3_1 k8_g5_0 g8_g5_0 k8_g5_1 g8_g5_1 B8 z8; intro f hf; have u108 : f 108 = (.bool true) := (by rw [← hf]; rfl); have u120 : f 120 = (.bool true) := (by rw [← hf]; rfl); clear hf; rintro w' ⟨h0, h1, h2, h3, h4, h5, h6, h7, h8, h9, h10, h11⟩; go_simp; try exact IntWalk.i64_in _ (by omega)
      refine obe_val (by rfl) ?_ ?_
      · clear k8_b2_0 g8_b2_0 k8_b2_1 g8_b2_1 k8_b3_0 g8_b3_0 k8_b3_1 g8_b3_1 k8_g5_0 g8_g5_0 k8_g5_1 g8_g5_1 B8 z8; intro f hf; have u121 : f 121 = (.bool true) := (by rw [← hf]; rfl); clear hf; rintro w' ⟨h0, h1, h2, h3, h4, h5, h6, h7, h8, h9, h10, h11⟩; go_simp; try exact IntWalk.i64_in _ (by omega)
      refine obe_val (by rfl) ?_ ?_
      · clear k8_b2_0 g8_b2_0 k8_b2_1 g8_b2_1 k8_b3_0 g8_b3_0 k8_b3_1 g8_b3_1 k8_g5_0 g8_g5_0 k8_g5_1 g8_g5_1 B8 z8; intro f hf; have u2 : f 2 = (.pointer (some ⟨w.heap.size, 0, none⟩)) := (by rw [← hf]; rfl); clear hf; rintro w' ⟨h0, h1, h2, h3, h4, h5, h6, h7, h8, h9, h10, h11⟩; go_simp; try exact IntWalk.i64_in _ (by omega)
      refine obe_val (by rfl) ?_ ?_
      · clear k8_b2_0 g8_b2_0 k8_b2_1 g8_b2_1 k8_b3_0 g8_b3_0 k8_b3_1 g8_b3_1 k8_g5_0 g8_g5_0 k8_g5_1 g8_g5_1 B8 z8; intro f hf; have u3 : f 3 = (.pointer (some ⟨w.heap.size + 1, 0, none⟩)) := (by rw [← hf]; rfl); clear hf; rintro w' ⟨h0, h1, h2, h3, h4, h5, h6, h7, h8, h9, h10, h11⟩; go_simp; try exact IntWalk.i64_in _ (by omega)
      refine obe_call (by rfl) ?_ ?_ ?_
      · clear k8_b2_0 g8_b2_0 k8_b2_1 g8_b2_1 k8_b3_0 g8_b3_0 k8_b3_1 g8_b3_1 k8_g5_0 g8_g5_0 k8_g5_1 g8_g5_1 B8 z8; intro f hf; have u123 : f 123 = (.agg #[.int .i64 x, .int .i64 y]) := (by rw [← hf]; rfl); have u124 : f 124 = (.agg #[.int .i64 u, .int .i64 v]) := (by rw [← hf]; rfl); clear hf; intro w' _; simp only [execOp, resolve, invoke, rhoF_tmp, rhoF_func, rhoF_const, u123, u124, List.map_toArray, List.map_cons, List.map_nil]; go_simp
      · clear k8_b2_0 g8_b2_0 k8_b2_1 g8_b2_1 k8_b3_0 g8_b3_0 k8_b3_1 g8_b3_1 k8_g5_0 g8_g5_0 k8_g5_1 g8_g5_1 B8 z8; rintro w' ⟨h0, h1, h2, h3, h4, h5, h6, h7, h8, h9, h10, h11⟩; exact l1 _
      refine obe_val (by rfl) ?_ ?_
      · clear k8_b2_0 g8_b2_0 k8_b2_1 g8_b2_1 k8_b3_0 g8_b3_0 k8_b3_1 g8_b3_1 k8_g5_0 g8_g5_0 k8_g5_1 g8_g5_1 B8 z8; intro f hf; have u125 : f 125 = (.bool false) := (by rw [← hf]; rfl); clear hf; rintro w' ⟨h0, h1, h2, h3, h4, h5, h6, h7, h8, h9, h10, h11⟩; go_simp; try exact IntWalk.i64_in _ (by omega)
      refine obe_skip (by rfl) ?_
      refine obe_skip (by rfl) ?_
      refine obe_skip (by rfl) ?_
      refine obe_val (by rfl) ?_ ?_
      · clear k8_b2_0 g8_b2_0 k8_b2_1 g8_b2_1 k8_b3_0 g8_b3_0 k8_b3_1 g8_b3_1 k8_g5_0 g8_g5_0 k8_g5_1 g8_g5_1 B8 z8; intro f hf; have u126 : f 126 = (.bool false) := (by rw [← hf]; rfl); clear hf; rintro w' ⟨h0, h1, h2, h3, h4, h5, h6, h7, h8, h9, h10, h11⟩; go_simp; try exact IntWalk.i64_in _ (by omega)
      refine obe_val (by rfl) ?_ ?_
      · clear k8_b2_0 g8_b2_0 k8_b2_1 g8_b2_1 k8_b3_0 g8_b3_0 k8_b3_1 g8_b3_1 k8_g5_0 g8_g5_0 k8_g5_1 g8_g5_1 B8 z8; intro f hf; have u130 : f 130 = (.bool false) := (by rw [← hf]; rfl); clear hf; rintro w' ⟨h0, h1, h2, h3, h4, h5, h6, h7, h8, h9, h10, h11⟩; go_simp; try exact IntWalk.i64_in _ (by omega)
      refine obe_val (by rfl) ?_ ?_
      · clear k8_b2_0 g8_b2_0 k8_b2_1 g8_b2_1 k8_b3_0 g8_b3_0 k8_b3_1 g8_b3_1 k8_g5_0 g8_g5_0 k8_g5_1 g8_g5_1 B8 z8; intro f hf; have u122 : f 122 = (.bool true) := (by rw [← hf]; rfl); have u131 : f 131 = (.bool true) := (by rw [← hf]; rfl); clear hf; rintro w' ⟨h0, h1, h2, h3, h4, h5, h6, h7, h8, h9, h10, h11⟩; go_simp; try exact IntWalk.i64_in _ (by omega)
      refine obe_val (by rfl) ?_ ?_
      · clear k8_b2_0 g8_b2_0 k8_b2_1 g8_b2_1 k8_b3_0 g8_b3_0 k8_b3_1 g8_b3_1 k8_g5_0 g8_g5_0 k8_g5_1 g8_g5_1 B8 z8; intro f hf; have u132 : f 132 = (.bool true) := (by rw [← hf]; rfl); clear hf; rintro w' ⟨h0, h1, h2, h3, h4, h5, h6, h7, h8, h9, h10, h11⟩; go_simp; try exact IntWalk.i64_in _ (by omega)
      refine obe_call (by rfl) ?_ ?_ ?_
      · clear k8_b2_0 g8_b2_0 k8_b2_1 g8_b2_1 k8_b3_0 g8_b3_0 k8_b3_1 g8_b3_1 k8_g5_0 g8_g5_0 k8_g5_1 g8_g5_1 B8 z8; intro f hf; clear hf; intro w' _; simp only [execOp, resolve, invoke, rhoF_tmp, rhoF_func, rhoF_const, List.map_toArray, List.map_cons, List.map_nil]; go_simp
      · clear k8_b2_0 g8_b2_0 k8_b2_1 g8_b2_1 k8_b3_0 g8_b3_0 k8_b3_1 g8_b3_1 k8_g5_0 g8_g5_0 k8_g5_1 g8_g5_1 B8 z8; rintro w' ⟨h0, h1, h2, h3, h4, h5, h6, h7, h8, h9, h10, h11⟩; exact example_any _
      refine obe_val (by rfl) ?_ ?_
      · clear k8_b2_0 g8_b2_0 k8_b2_1 g8_b2_1 k8_b3_0 g8_b3_0 k8_b3_1 g8_b3_1 k8_g5_0 g8_g5_0 k8_g5_1 g8_g5_1 B8 z8; intro f hf; have u133 : f 133 = (.bool true) := (by rw [← hf]; rfl); have u134 : f 134 = (.bool true) := (by rw [← hf]; rfl); clear hf; rintro w' ⟨h0, h1, h2, h3, h4, h5, h6, h7, h8, h9, h10, h11⟩; go_simp; try exact IntWalk.i64_in _ (by omega)
      refine obe_val (by rfl) ?_ ?_
      · clear k8_b2_0 g8_b2_0 k8_b2_1 g8_b2_1 k8_b3_0 g8_b3_0 k8_b3_1 g8_b3_1 k8_g5_0 g8_g5_0 k8_g5_1 g8_g5_1 B8 z8; intro f hf; have u135 : f 135 = (.bool true) := (by rw [← hf]; rfl); clear hf; rintro w' ⟨h0, h1, h2, h3, h4, h5, h6, h7, h8, h9, h10, h11⟩; go_simp; try exact IntWalk.i64_in _ (by omega)
      refine obe_nil ?_
      rintro w9 ⟨h0, h1, h2, h3, h4, h5, h6, h7, h8, h9, h10, h11⟩ hb9 hF
      (try simp only [List.nil_append, List.append_nil, List.cons_append] at hF)
      simp only [puts, putD, Act.put, List.setIfInBounds_toArray, List.set_cons_zero, List.set_cons_succ]
      clear hF
      have k9_b2_0 := bcs hb9 k8_b2_0
      have g9_b2_0 := bfs hb9 k8_b2_0 g8_b2_0
      have k9_b2_1 := bcs hb9 k8_b2_1
      have g9_b2_1 := bfs hb9 k8_b2_1 g8_b2_1
      have k9_b3_0 := bcs hb9 k8_b3_0
      have g9_b3_0 := bfs hb9 k8_b3_0 g8_b3_0
      have k9_b3_1 := bcs hb9 k8_b3_1
      have g9_b3_1 := bfs hb9 k8_b3_1 g8_b3_1
      have k9_g5_0 := bcs hb9 k8_g5_0
      have g9_g5_0 := bfs hb9 k8_g5_0 g8_g5_0
      have k9_g5_1 := bcs hb9 k8_g5_1
      have g9_g5_1 := bfs hb9 k8_g5_1 g8_g5_1
      clear h0 h1 h2 h3 h4 h5 h6 h7 h8 h9 h10 h11
      have B9 := bel_step B8 hb9
      have z9 := Nat.le_trans z8 hb9.size
      clear hb9
      (try clear B8)
      (try clear z8)
      (try clear k8_b2_0)
      (try clear g8_b2_0)
      (try clear k8_b2_1)
      (try clear g8_b2_1)
      (try clear k8_b3_0)
      (try clear g8_b3_0)
      (try clear k8_b3_1)
      (try clear g8_b3_1)
      (try clear k8_g5_0)
      (try clear g8_g5_0)
      (try clear k8_g5_1)
      (try clear g8_g5_1)
      (try clear q8_b2)
      (try clear x8_b2)
      (try clear y8_b2)
      (try clear q8_b3)
      (try clear x8_b3)
      (try clear y8_b3)
      (try clear q8_g5)
      (try clear x8_g5)
      (try clear y8_g5)
      have q9_b2 : w.heap.size < w9.heap.size := qlt k9_b2_0
      have x9_b2 : ¬ w.heap.size = w9.heap.size := qne k9_b2_0
      have y9_b2 : ¬ w9.heap.size = w.heap.size := fun h => qne k9_b2_0 h.symm
      have q9_b3 : w.heap.size + 1 < w9.heap.size := qlt k9_b3_0
      have x9_b3 : ¬ w.heap.size + 1 = w9.heap.size := qne k9_b3_0
      have y9_b3 : ¬ w9.heap.size = w.heap.size + 1 := fun h => qne k9_b3_0 h.symm
      have q9_g5 : w3.heap.size < w9.heap.size := qlt k9_g5_0
      have x9_g5 : ¬ w3.heap.size = w9.heap.size := qne k9_g5_0
      have y9_g5 : ¬ w9.heap.size = w3.heap.size := fun h => qne k9_g5_0 h.symm
      unfold wpList
      go_wp2
      go_ret
      refine ⟨rfl, ?_⟩
      repeat (first | with_reducible exact Below.refl _ _ | with_reducible exact B9 | with_reducible apply below_drewN | with_reducible apply Below.drew | (with_reducible refine Below.alloc ?_ (by first | (simp; done) | (simp; omega) | omega) _) | (with_reducible refine Below.setCell ?_ (by first | (simp; done) | (simp; omega) | omega) _))
    · rw [j1] at l1
      rw [j2] at l2
      rw [j3] at nq
      clear j1 j2 j3
      refine wp_region_env (fun w' => w'.cell? ⟨w.heap.size, 0, none⟩ = some (.int .i64 x) ∧ w'.frozen? ⟨w.heap.size, 0, none⟩ = false ∧ w'.cell? ⟨w.heap.size, 1, none⟩ = some (.int .i64 y) ∧ w'.frozen? ⟨w.heap.size, 1, none⟩ = false ∧ w'.cell? ⟨w.heap.size + 1, 0, none⟩ = some (.int .i64 u) ∧ w'.frozen? ⟨w.heap.size + 1, 0, none⟩ = false ∧ w'.cell? ⟨w.heap.size + 1, 1, none⟩ = some (.int .i64 v) ∧ w'.frozen? ⟨w.heap.size + 1, 1, none⟩ = false ∧ w'.cell? ⟨w3.heap.size, 0, none⟩ = some (.int .i64 (-y)) ∧ w'.frozen? ⟨w3.heap.size, 0, none⟩ = false ∧ w'.cell? ⟨w3.heap.size, 1, none⟩ = some (.int .i64 x) ∧ w'.frozen? ⟨w3.heap.size, 1, none⟩ = false) (fun W => W.cell? ⟨w.heap.size, 0, none⟩ = some (.int .i64 x) ∧ W.frozen? ⟨w.heap.size, 0, none⟩ = false ∧ W.cell? ⟨w.heap.size, 1, none⟩ = some (.int .i64 y) ∧ W.frozen? ⟨w.heap.size, 1, none⟩ = false ∧ W.cell? ⟨w.heap.size + 1, 0, none⟩ = some (.int .i64 u) ∧ W.frozen? ⟨w.heap.size + 1, 0, none⟩ = false ∧ W.cell? ⟨w.heap.size + 1, 1, none⟩ = some (.int .i64 v) ∧ W.frozen? ⟨w.heap.size + 1, 1, none⟩ = false ∧ W.cell? ⟨w3.heap.size, 0, none⟩ = some (.int .i64 (-y)) ∧ W.frozen? ⟨w3.heap.size, 0, none⟩ = false ∧ W.cell? ⟨w3.heap.size, 1, none⟩ = some (.int .i64 x) ∧ W.frozen? ⟨w3.heap.size, 1, none⟩ = false ∧ Below w.heap.size w W ∧ w.heap.size + 1 + 1 ≤ W.heap.size) 57 136 [.val (.int .i64 r), .val (.bool true), .val (.bool true), .val (.int .i64 r), .val (.bool true), .val (.bool true), .val (.bool true), .val (.int .i64 r), .val (.int .i64 r), .val (.int .i64 (r * r)), .val (.int .i64 (65536 * G)), .val (.bool true), .val (.bool true), .val (.bool true), .val (.int .i64 r), .val (.int .i64 (r + 1)), .val (.int .i64 r), .val (.int .i64 (r + 1)), .val (.int .i64 ((r + 1) * (r + 1))), .val (.int .i64 (65536 * G)), .val (.bool true), .val (.bool true), .val (.bool true), .val (.agg #[.int .i64 (-y), .int .i64 x]), .call 21 #[.agg #[.int .i64 (-y), .int .i64 x]] (.int .i64 r), .val (.int .i64 r), .val (.bool true), .val (.bool true), .val (.bool true), .val (.agg #[.int .i64 x, .int .i64 y]), .val (.agg #[.int .i64 u, .int .i64 v]), .call 23 #[.agg #[.int .i64 x, .int .i64 y], .agg #[.int .i64 u, .int .i64 v]] (.bool false), .val (.bool false), .val (.agg #[.int .i64 u, .int .i64 v]), .val (.agg #[.int .i64 x, .int .i64 y]), .call 23 #[.agg #[.int .i64 u, .int .i64 v], .agg #[.int .i64 x, .int .i64 y]] (.bool false), .val (.bool false), .val (.agg #[.int .i64 x, .int .i64 y]), .val (.agg #[.int .i64 u, .int .i64 v]), .val (.bool false), .val (.bool true), .val (.bool true), .val (.bool true), .val (.agg #[.int .i64 x, .int .i64 y]), .val (.agg #[.int .i64 u, .int .i64 v]), .call 23 #[.agg #[.int .i64 x, .int .i64 y], .agg #[.int .i64 u, .int .i64 v]] (.bool false), .val (.bool false), .skip, .skip, .skip, .val (.bool false), .val (.bool true), .val (.bool true), .val (.bool true), .call 25 #[] (.bool true), .val (.bool true), .val (.bool true)] (by kernel_rfl) (by kernel_rfl) rfl (by kernel_rfl) (by rintro w1 w2 ⟨h0, h1, h2, h3, h4, h5, h6, h7, h8, h9, h10, h11⟩ hb; exact ⟨bcs hb h0, bfs hb h0 h1, bcs hb h2, bfs hb h2 h3, bcs hb h4, bfs hb h4 h5, bcs hb h6, bfs hb h6 h7, bcs hb h8, bfs hb h8 h9, bcs hb h10, bfs hb h10 h11⟩) ⟨by first | with_reducible assumption | go_simp, by first | with_reducible assumption | go_simp, by first | with_reducible assumption | go_simp, by first | with_reducible assumption | go_simp, by first | with_reducible assumption | go_simp, by first | with_reducible assumption | go_simp, by first | with_reducible assumption | go_simp, by first | with_reducible assumption | go_simp, by first | with_reducible assumption | go_simp, by first | with_reducible assumption | go_simp, by first | with_reducible assumption | go_simp, by first | with_reducible assumption | go_simp, by repeat (first | with_reducible exact Below.refl _ _ | with_reducible exact B7 | with_reducible apply below_drewN | with_reducible apply Below.drew | (with_reducible refine Below.alloc ?_ (by first | (simp; done) | (simp; omega) | omega) _) | (with_reducible refine Below.setCell ?_ (by first | (simp; done) | (simp; omega) | omega) _)), by first | with_reducible assumption | (simp; done) | (simp; omega)⟩ ?_ ?_
      · rintro W ⟨k8_b2_0, g8_b2_0, k8_b2_1, g8_b2_1, k8_b3_0, g8_b3_0, k8_b3_1, g8_b3_1, k8_g5_0, g8_g5_0, k8_g5_1, g8_g5_1, B8, z8⟩; exact ⟨k8_b2_0, g8_b2_0, k8_b2_1, g8_b2_1, k8_b3_0, g8_b3_0, k8_b3_1, g8_b3_1, k8_g5_0, g8_g5_0, k8_g5_1, g8_g5_1⟩
      (try clear B7)
      (try clear z7)
      (try clear k7_b2_0)
      (try clear g7_b2_0)
      (try clear k7_b2_1)
      (try clear g7_b2_1)
      (try clear k7_b3_0)
      (try clear g7_b3_0)
      (try clear k7_b3_1)
      (try clear g7_b3_1)
      (try clear k7_g5_0)
      (try clear g7_g5_0)
      (try clear k7_g5_1)
      (try clear g7_g5_1)
      (try clear q7_b2)
      (try clear x7_b2)
      (try clear y7_b2)
      (try clear q7_b3)
      (try clear x7_b3)
      (try clear y7_b3)
      (try clear q7_g5)
      (try clear x7_g5)
      (try clear y7_g5)
      rintro w8 ⟨k8_b2_0, g8_b2_0, k8_b2_1, g8_b2_1, k8_b3_0, g8_b3_0, k8_b3_1, g8_b3_1, k8_g5_0, g8_g5_0, k8_g5_1, g8_g5_1, B8, z8⟩ gg
      simp only [List.take_succ_cons, List.take_zero, List.drop_succ_cons, List.drop_zero, List.cons_append, List.nil_append, List.append_nil]
      refine obe_val (by rfl) ?_ ?_
      · clear k8_b2_0 g8_b2_0 k8_b2_1 g8_b2_1 k8_b3_0 g8_b3_0 k8_b3_1 g8_b3_1 k8_g5_0 g8_g5_0 k8_g5_1 g8_g5_1 B8 z8; intro f hf; have u6 : f 6 = (.int .i64 r) := (by rw [← hf]; rfl); clear hf; rintro w' ⟨h0, h1, h2, h3, h4, h5, h6, h7, h8, h9, h10, h11⟩; go_simp; try exact IntWalk.i64_in _ (by omega)
      refine obe_val (by rfl) ?_ ?_
      · clear k8_b2_0 g8_b2_0 k8_b2_1 g8_b2_1 k8_b3_0 g8_b3_0 k8_b3_1 g8_b3_1 k8_g5_0 g8_g5_0 k8_g5_1 g8_g5_1 B8 z8; intro f hf; have u80 : f 80 = (.int .i64 r) := (by rw [← hf]; rfl); clear hf; rintro w' ⟨h0, h1, h2, h3, h4, h5, h6, h7, h8, h9, h10, h11⟩; go_simp; try exact IntWalk.i64_in _ (by omega)
      refine obe_val (by rfl) ?_ ?_
      · clear k8_b2_0 g8_b2_0 k8_b2_1 g8_b2_1 k8_b3_0 g8_b3_0 k8_b3_1 g8_b3_1 k8_g5_0 g8_g5_0 k8_g5_1 g8_g5_1 B8 z8; intro f hf; have u81 : f 81 = (.bool true) := (by rw [← hf]; rfl); clear hf; rintro w' ⟨h0, h1, h2, h3, h4, h5, h6, h7, h8, h9, h10, h11⟩; go_simp; try exact IntWalk.i64_in _ (by omega)
      refine obe_val (by rfl) ?_ ?_
      · clear k8_b2_0 g8_b2_0 k8_b2_1 g8_b2_1 k8_b3_0 g8_b3_0 k8_b3_1 g8_b3_1 k8_g5_0 g8_g5_0 k8_g5_1 g8_g5_1 B8 z8; intro f hf; have u6 : f 6 = (.int .i64 r) := (by rw [← hf]; rfl); clear hf; rintro w' ⟨h0, h1, h2, h3, h4, h5, h6, h7, h8, h9, h10, h11⟩; go_simp; try exact IntWalk.i64_in _ (by omega)
      refine obe_val (by rfl) ?_ ?_
      · clear k8_b2_0 g8_b2_0 k8_b2_1 g8_b2_1 k8_b3_0 g8_b3_0 k8_b3_1 g8_b3_1 k8_g5_0 g8_g5_0 k8_g5_1 g8_g5_1 B8 z8; intro f hf; have u83 : f 83 = (.int .i64 r) := (by rw [← hf]; rfl); clear hf; rintro w' ⟨h0, h1, h2, h3, h4, h5, h6, h7, h8, h9, h10, h11⟩; go_simp; try exact IntWalk.i64_in _ (by omega)
      refine obe_val (by rfl) ?_ ?_
      · clear k8_b2_0 g8_b2_0 k8_b2_1 g8_b2_1 k8_b3_0 g8_b3_0 k8_b3_1 g8_b3_1 k8_g5_0 g8_g5_0 k8_g5_1 g8_g5_1 B8 z8; intro f hf; have u82 : f 82 = (.bool true) := (by rw [← hf]; rfl); have u84 : f 84 = (.bool true) := (by rw [← hf]; rfl); clear hf; rintro w' ⟨h0, h1, h2, h3, h4, h5, h6, h7, h8, h9, h10, h11⟩; go_simp; try exact IntWalk.i64_in _ (by omega)
      refine obe_val (by rfl) ?_ ?_
      · clear k8_b2_0 g8_b2_0 k8_b2_1 g8_b2_1 k8_b3_0 g8_b3_0 k8_b3_1 g8_b3_1 k8_g5_0 g8_g5_0 k8_g5_1 g8_g5_1 B8 z8; intro f hf; have u85 : f 85 = (.bool true) := (by rw [← hf]; rfl); clear hf; rintro w' ⟨h0, h1, h2, h3, h4, h5, h6, h7, h8, h9, h10, h11⟩; go_simp; try exact IntWalk.i64_in _ (by omega)
      refine obe_val (by rfl) ?_ ?_
      · clear k8_b2_0 g8_b2_0 k8_b2_1 g8_b2_1 k8_b3_0 g8_b3_0 k8_b3_1 g8_b3_1 k8_g5_0 g8_g5_0 k8_g5_1 g8_g5_1 B8 z8; intro f hf; have u6 : f 6 = (.int .i64 r) := (by rw [← hf]; rfl); clear hf; rintro w' ⟨h0, h1, h2, h3, h4, h5, h6, h7, h8, h9, h10, h11⟩; go_simp; try exact IntWalk.i64_in _ (by omega)
      refine obe_val (by rfl) ?_ ?_
      · clear k8_b2_0 g8_b2_0 k8_b2_1 g8_b2_1 k8_b3_0 g8_b3_0 k8_b3_1 g8_b3_1 k8_g5_0 g8_g5_0 k8_g5_1 g8_g5_1 B8 z8; intro f hf; have u6 : f 6 = (.int .i64 r) := (by rw [← hf]; rfl); clear hf; rintro w' ⟨h0, h1, h2, h3, h4, h5, h6, h7, h8, h9, h10, h11⟩; go_simp; try exact IntWalk.i64_in _ (by omega)
      refine obe_val (by rfl) ?_ ?_
      · clear k8_b2_0 g8_b2_0 k8_b2_1 g8_b2_1 k8_b3_0 g8_b3_0 k8_b3_1 g8_b3_1 k8_g5_0 g8_g5_0 k8_g5_1 g8_g5_1 B8 z8; intro f hf; have u87 : f 87 = (.int .i64 r) := (by rw [← hf]; rfl); have u88 : f 88 = (.int .i64 r) := (by rw [← hf]; rfl); clear hf; rintro w' ⟨h0, h1, h2, h3, h4, h5, h6, h7, h8, h9, h10, h11⟩; go_simp; try exact IntWalk.i64_in _ (by omega)
      refine obe_val (by rfl) ?_ ?_
      · clear k8_b2_0 g8_b2_0 k8_b2_1 g8_b2_1 k8_b3_0 g8_b3_0 k8_b3_1 g8_b3_1 k8_g5_0 g8_g5_0 k8_g5_1 g8_g5_1 B8 z8; intro f hf; have u7 : f 7 = (.int .i64 (65536 * G)) := (by rw [← hf]; rfl); clear hf; rintro w' ⟨h0, h1, h2, h3, h4, h5, h6, h7, h8, h9, h10, h11⟩; go_simp; try exact IntWalk.i64_in _ (by omega)
      refine obe_val (by rfl) ?_ ?_
      · clear k8_b2_0 g8_b2_0 k8_b2_1 g8_b2_1 k8_b3_0 g8_b3_0 k8_b3_1 g8_b3_1 k8_g5_0 g8_g5_0 k8_g5_1 g8_g5_1 B8 z8; intro f hf; have u89 : f 89 = (.int .i64 (r * r)) := (by rw [← hf]; rfl); have u90 : f 90 = (.int .i64 (65536 * G)) := (by rw [← hf]; rfl); clear hf; rintro w' ⟨h0, h1, h2, h3, h4, h5, h6, h7, h8, h9, h10, h11⟩; go_simp; try exact IntWalk.i64_in _ (by omega)
      refine obe_val (by rfl) ?_ ?_
      · clear k8_b2_0 g8_b2_0 k8_b2_1 g8_b2_1 k8_b3_0 g8_b3_0 k8_b3_1 g8_b3_1 k8_g5_0 g8_g5_0 k8_g5_1 g8_g5_1 B8 z8; intro f hf; have u86 : f 86 = (.bool true) := (by rw [← hf]; rfl); have u91 : f 91 = (.bool true) := (by rw [← hf]; rfl); clear hf; rintro w' ⟨h0, h1, h2, h3, h4, h5, h6, h7, h8, h9, h10, h11⟩; go_simp; try exact IntWalk.i64_in _ (by omega)
      refine obe_val (by rfl) ?_ ?_
      · clear k8_b2_0 g8_b2_0 k8_b2_1 g8_b2_1 k8_b3_0 g8_b3_0 k8_b3_1 g8_b3_1 k8_g5_0 g8_g5_0 k8_g5_1 g8_g5_1 B8 z8; intro f hf; have u92 : f 92 = (.bool true) := (by rw [← hf]; rfl); clear hf; rintro w' ⟨h0, h1, h2, h3, h4, h5, h6, h7, h8, h9, h10, h11⟩; go_simp; try exact IntWalk.i64_in _ (by omega)
      refine obe_val (by rfl) ?_ ?_
      · clear k8_b2_0 g8_b2_0 k8_b2_1 g8_b2_1 k8_b3_0 g8_b3_0 k8_b3_1 g8_b3_1 k8_g5_0 g8_g5_0 k8_g5_1 g8_g5_1 B8 z8; intro f hf; have u6 : f 6 = (.int .i64 r) := (by rw [← hf]; rfl); clear hf; rintro w' ⟨h0, h1, h2, h3, h4, h5, h6, h7, h8, h9, h10, h11⟩; go_simp; try exact IntWalk.i64_in _ (by omega)
      refine obe_val (by rfl) ?_ ?_
      · clear k8_b2_0 g8_b2_0 k8_b2_1 g8_b2_1 k8_b3_0 g8_b3_0 k8_b3_1 g8_b3_1 k8_g5_0 g8_g5_0 k8_g5_1 g8_g5_1 B8 z8; intro f hf; have u94 : f 94 = (.int .i64 r) := (by rw [← hf]; rfl); clear hf; rintro w' ⟨h0, h1, h2, h3, h4, h5, h6, h7, h8, h9, h10, h11⟩; go_simp; try exact IntWalk.i64_in _ (by omega)
      refine obe_val (by rfl) ?_ ?_
      · clear k8_b2_0 g8_b2_0 k8_b2_1 g8_b2_1 k8_b3_0 g8_b3_0 k8_b3_1 g8_b3_1 k8_g5_0 g8_g5_0 k8_g5_1 g8_g5_1 B8 z8; intro f hf; have u6 : f 6 = (.int .i64 r) := (by rw [← hf]; rfl); clear hf; rintro w' ⟨h0, h1, h2, h3, h4, h5, h6, h7, h8, h9, h10, h11⟩; go_simp; try exact IntWalk.i64_in _ (by omega)
      refine obe_val (by rfl) ?_ ?_
      · clear k8_b2_0 g8_b2_0 k8_b2_1 g8_b2_1 k8_b3_0 g8_b3_0 k8_b3_1 g8_b3_1 k8_g5_0 g8_g5_0 k8_g5_1 g8_g5_1 B8 z8; intro f hf; have u96 : f 96 = (.int .i64 r) := (by rw [← hf]; rfl); clear hf; rintro w' ⟨h0, h1, h2, h3, h4, h5, h6, h7, h8, h9, h10, h11⟩; go_simp; try exact IntWalk.i64_in _ (by omega)
      refine obe_val (by rfl) ?_ ?_
      · clear k8_b2_0 g8_b2_0 k8_b2_1 g8_b2_1 k8_b3_0 g8_b3_0 k8_b3_1 g8_b3_1 k8_g5_0 g8_g5_0 k8_g5_1 g8_g5_1 B8 z8; intro f hf; have u95 : f 95 = (.int .i64 (r + 1)) := (by rw [← hf]; rfl); have u97 : f 97 = (.int .i64 (r + 1)) := (by rw [← hf]; rfl); clear hf; rintro w' ⟨h0, h1, h2, h3, h4, h5, h6, h7, h8, h9, h10, h11⟩; go_simp; try exact IntWalk.i64_in _ (by omega)
      refine obe_val (by rfl) ?_ ?_
      · clear k8_b2_0 g8_b2_0 k8_b2_1 g8_b2_1 k8_b3_0 g8_b3_0 k8_b3_1 g8_b3_1 k8_g5_0 g8_g5_0 k8_g5_1 g8_g5_1 B8 z8; intro f hf; have u7 : f 7 = (.int .i64 (65536 * G)) := (by rw [← hf]; rfl); clear hf; rintro w' ⟨h0, h1, h2, h3, h4, h5, h6, h7, h8, h9, h10, h11⟩; go_simp; try exact IntWalk.i64_in _ (by omega)
      refine obe_val (by rfl) ?_ ?_
      · clear k8_b2_0 g8_b2_0 k8_b2_1 g8_b2_1 k8_b3_0 g8_b3_0 k8_b3_1 g8_b3_1 k8_g5_0 g8_g5_0 k8_g5_1 g8_g5_1 B8 z8; intro f hf; have u98 : f 98 = (.int .i64 ((r + 1) * (r + 1))) := (by rw [← hf]; rfl); have u99 : f 99 = (.int .i64 (65536 * G)) := (by rw [← hf]; rfl); clear hf; rintro w' ⟨h0, h1, h2, h3, h4, h5, h6, h7, h8, h9, h10, h11⟩; go_simp; try exact IntWalk.i64_in _ (by omega)
      refine obe_val (by rfl) ?_ ?_
      · clear k8_b2_0 g8_b2_0 k8_b2_1 g8_b2_1 k8_b3_0 g8_b3_0 k8_b3_1 g8_b3_1 k8_g5_0 g8_g5_0 k8_g5_1 g8_g5_1 B8 z8; intro f hf; have u93 : f 93 = (.bool true) := (by rw [← hf]; rfl); have u100 : f 100 = (.bool true) := (by rw [← hf]; rfl); clear hf; rintro w' ⟨h0, h1, h2, h3, h4, h5, h6, h7, h8, h9, h10, h11⟩; go_simp; try exact IntWalk.i64_in _ (by omega)
      refine obe_val (by rfl) ?_ ?_
      · clear k8_b2_0 g8_b2_0 k8_b2_1 g8_b2_1 k8_b3_0 g8_b3_0 k8_b3_1 g8_b3_1 k8_g5_0 g8_g5_0 k8_g5_1 g8_g5_1 B8 z8; intro f hf; have u101 : f 101 = (.bool true) := (by rw [← hf]; rfl); clear hf; rintro w' ⟨h0, h1, h2, h3, h4, h5, h6, h7, h8, h9, h10, h11⟩; go_simp; try exact IntWalk.i64_in _ (by omega)
      refine obe_val (by rfl) ?_ ?_
      · clear k8_b2_0 g8_b2_0 k8_b2_1 g8_b2_1 k8_b3_0 g8_b3_0 k8_b3_1 g8_b3_1 k8_g5_0 g8_g5_0 k8_g5_1 g8_g5_1 B8 z8; intro f hf; have u5 : f 5 = (.pointer (some ⟨w3.heap.size, 0, none⟩)) := (by rw [← hf]; rfl); clear hf; rintro w' ⟨h0, h1, h2, h3, h4, h5, h6, h7, h8, h9, h10, h11⟩; go_simp; try exact IntWalk.i64_in _ (by omega)
      refine obe_call (by rfl) ?_ ?_ ?_
      · clear k8_b2_0 g8_b2_0 k8_b2_1 g8_b2_1 k8_b3_0 g8_b3_0 k8_b3_1 g8_b3_1 k8_g5_0 g8_g5_0 k8_g5_1 g8_g5_1 B8 z8; intro f hf; have u103 : f 103 = (.agg #[.int .i64 (-y), .int .i64 x]) := (by rw [← hf]; rfl); clear hf; intro w' _; simp only [execOp, resolve, invoke, rhoF_tmp, rhoF_func, rhoF_const, u103, List.map_toArray, List.map_cons, List.map_nil]; go_simp
      · clear k8_b2_0 g8_b2_0 k8_b2_1 g8_b2_1 k8_b3_0 g8_b3_0 k8_b3_1 g8_b3_1 k8_g5_0 g8_g5_0 k8_g5_1 g8_g5_1 B8 z8; rintro w' ⟨h0, h1, h2, h3, h4, h5, h6, h7, h8, h9, h10, h11⟩; exact n2 _
      refine obe_val (by rfl) ?_ ?_
      · clear k8_b2_0 g8_b2_0 k8_b2_1 g8_b2_1 k8_b3_0 g8_b3_0 k8_b3_1 g8_b3_1 k8_g5_0 g8_g5_0 k8_g5_1 g8_g5_1 B8 z8; intro f hf; have u6 : f 6 = (.int .i64 r) := (by rw [← hf]; rfl); clear hf; rintro w' ⟨h0, h1, h2, h3, h4, h5, h6, h7, h8, h9, h10, h11⟩; go_simp; try exact IntWalk.i64_in _ (by omega)
      refine obe_val (by rfl) ?_ ?_
      · clear k8_b2_0 g8_b2_0 k8_b2_1 g8_b2_1 k8_b3_0 g8_b3_0 k8_b3_1 g8_b3_1 k8_g5_0 g8_g5_0 k8_g5_1 g8_g5_1 B8 z8; intro f hf; have u104 : f 104 = (.int .i64 r) := (by rw [← hf]; rfl); have u105 : f 105 = (.int .i64 r) := (by rw [← hf]; rfl); clear hf; rintro w' ⟨h0, h1, h2, h3, h4, h5, h6, h7, h8, h9, h10, h11⟩; go_simp; try exact IntWalk.i64_in _ (by omega)
      refine obe_val (by rfl) ?_ ?_
      · clear k8_b2_0 g8_b2_0 k8_b2_1 g8_b2_1 k8_b3_0 g8_b3_0 k8_b3_1 g8_b3_1 k8_g5_0 g8_g5_0 k8_g5_1 g8_g5_1 B8 z8; intro f hf; have u102 : f 102 = (.bool true) := (by rw [← hf]; rfl); have u106 : f 106 = (.bool true) := (by rw [← hf]; rfl); clear hf; rintro w' ⟨h0, h1, h2, h3, h4, h5, h6, h7, h8, h9, h10, h11⟩; go_simp; try exact IntWalk.i64_in _ (by omega)
      refine obe_val (by rfl) ?_ ?_
      · clear k8_b2_0 g8_b2_0 k8_b2_1 g8_b2_1 k8_b3_0 g8_b3_0 k8_b3_1 g8_b3_1 k8_g5_0 g8_g5_0 k8_g5_1 g8_g5_1 B8 z8; intro f hf; have u107 : f 107 = (.bool true) := (by rw [← hf]; rfl); clear hf; rintro w' ⟨h0, h1, h2, h3, h4, h5, h6, h7, h8, h9, h10, h11⟩; go_simp; try exact IntWalk.i64_in _ (by omega)
      refine obe_val (by rfl) ?_ ?_
      · clear k8_b2_0 g8_b2_0 k8_b2_1 g8_b2_1 k8_b3_0 g8_b3_0 k8_b3_1 g8_b3_1 k8_g5_0 g8_g5_0 k8_g5_1 g8_g5_1 B8 z8; intro f hf; have u2 : f 2 = (.pointer (some ⟨w.heap.size, 0, none⟩)) := (by rw [← hf]; rfl); clear hf; rintro w' ⟨h0, h1, h2, h3, h4, h5, h6, h7, h8, h9, h10, h11⟩; go_simp; try exact IntWalk.i64_in _ (by omega)
      refine obe_val (by rfl) ?_ ?_
      · clear k8_b2_0 g8_b2_0 k8_b2_1 g8_b2_1 k8_b3_0 g8_b3_0 k8_b3_1 g8_b3_1 k8_g5_0 g8_g5_0 k8_g5_1 g8_g5_1 B8 z8; intro f hf; have u3 : f 3 = (.pointer (some ⟨w.heap.size + 1, 0, none⟩)) := (by rw [← hf]; rfl); clear hf; rintro w' ⟨h0, h1, h2, h3, h4, h5, h6, h7, h8, h9, h10, h11⟩; go_simp; try exact IntWalk.i64_in _ (by omega)
      refine obe_call (by rfl) ?_ ?_ ?_
      · clear k8_b2_0 g8_b2_0 k8_b2_1 g8_b2_1 k8_b3_0 g8_b3_0 k8_b3_1 g8_b3_1 k8_g5_0 g8_g5_0 k8_g5_1 g8_g5_1 B8 z8; intro f hf; have u109 : f 109 = (.agg #[.int .i64 x, .int .i64 y]) := (by rw [← hf]; rfl); have u110 : f 110 = (.agg #[.int .i64 u, .int .i64 v]) := (by rw [← hf]; rfl); clear hf; intro w' _; simp only [execOp, resolve, invoke, rhoF_tmp, rhoF_func, rhoF_const, u109, u110, List.map_toArray, List.map_cons, List.map_nil]; go_simp
      · clear k8_b2_0 g8_b2_0 k8_b2_1 g8_b2_1 k8_b3_0 g8_b3_0 k8_b3_1 g8_b3_1 k8_g5_0 g8_g5_0 k8_g5_1 g8_g5_1 B8 z8; rintro w' ⟨h0, h1, h2, h3, h4, h5, h6, h7, h8, h9, h10, h11⟩; exact l1 _
      refine obe_val (by rfl) ?_ ?_
      · clear k8_b2_0 g8_b2_0 k8_b2_1 g8_b2_1 k8_b3_0 g8_b3_0 k8_b3_1 g8_b3_1 k8_g5_0 g8_g5_0 k8_g5_1 g8_g5_1 B8 z8; intro f hf; have u111 : f 111 = (.bool false) := (by rw [← hf]; rfl); clear hf; rintro w' ⟨h0, h1, h2, h3, h4, h5, h6, h7, h8, h9, h10, h11⟩; go_simp; try exact IntWalk.i64_in _ (by omega)
      refine obe_val (by rfl) ?_ ?_
      · clear k8_b2_0 g8_b2_0 k8_b2_1 g8_b2_1 k8_b3_0 g8_b3_0 k8_b3_1 g8_b3_1 k8_g5_0 g8_g5_0 k8_g5_1 g8_g5_1 B8 z8; intro f hf; have u3 : f 3 = (.pointer (some ⟨w.heap.size + 1, 0, none⟩)) := (by rw [← hf]; rfl); clear hf; rintro w' ⟨h0, h1, h2, h3, h4, h5, h6, h7, h8, h9, h10, h11⟩; go_simp; try exact IntWalk.i64_in _ (by omega)
      refine obe_val (by rfl) ?_ ?_
      · clear k8_b2_0 g8_b2_0 k8_b2_1 g8_b2_1 k8_b3_0 g8_b3_0 k8_b3_1 g8_b3_1 k8_g5_0 g8_g5_0 k8_g5_1 g8_g5_1 B8 z8; intro f hf; have u2 : f 2 = (.pointer (some ⟨w.heap.size, 0, none⟩)) := (by rw [← hf]; rfl); clear hf; rintro w' ⟨h0, h1, h2, h3, h4, h5, h6, h7, h8, h9, h10, h11⟩; go_simp; try exact IntWalk.i64_in _ (by omega)
      refine obe_call (by rfl) ?_ ?_ ?_
      · clear k8_b2_0 g8_b2_0 k8_b2_1 g8_b2_1 k8_b3_0 g8_b3_0 k8_b3_1 g8_b3_1 k8_g5_0 g8_g5_0 k8_g5_1 g8_g5_1 B8 z8; intro f hf; have u113 : f 113 = (.agg #[.int .i64 u, .int .i64 v]) := (by rw [← hf]; rfl); have u114 : f 114 = (.agg #[.int .i64 x, .int .i64 y]) := (by rw [← hf]; rfl); clear hf; intro w' _; simp only [execOp, resolve, invoke, rhoF_tmp, rhoF_func, rhoF_const, u113, u114, List.map_toArray, List.map_cons, List.map_nil]; go_simp
      · clear k8_b2_0 g8_b2_0 k8_b2_1 g8_b2_1 k8_b3_0 g8_b3_0 k8_b3_1 g8_b3_1 k8_g5_0 g8_g5_0 k8_g5_1 g8_g5_1 B8 z8; rintro w' ⟨h0, h1, h2, h3, h4, h5, h6, h7, h8, h9, h10, h11⟩; exact l2 _
      refine obe_val (by rfl) ?_ ?_
      · clear k8_b2_0 g8_b2_0 k8_b2_1 g8_b2_1 k8_b3_0 g8_b3_0 k8_b3_1 g8_b3_1 k8_g5_0 g8_g5_0 k8_g5_1 g8_g5_1 B8 z8; intro f hf; have u112 : f 112 = (.bool false) := (by rw [← hf]; rfl); have u115 : f 115 = (.bool false) := (by rw [← hf]; rfl); clear hf; rintro w' ⟨h0, h1, h2, h3, h4, h5, h6, h7, h8, h9, h10, h11⟩; go_simp; try exact IntWalk.i64_in _ (by omega)
      refine obe_val (by rfl) ?_ ?_
      · clear k8_b2_0 g8_b2_0 k8_b2_1 g8_b2_1 k8_b3_0 g8_b3_0 k8_b3_1 g8_b3_1 k8_g5_0 g8_g5_0 k8_g5_1 g8_g5_1 B8 z8; intro f hf; have u2 : f 2 = (.pointer (some ⟨w.heap.size, 0, none⟩)) := (by rw [← hf]; rfl); clear hf; rintro w' ⟨h0, h1, h2, h3, h4, h5, h6, h7, h8, h9, h10, h11⟩; go_simp; try exact IntWalk.i64_in _ (by omega)
      refine obe_val (by rfl) ?_ ?_
      · clear k8_b2_0 g8_b2_0 k8_b2_1 g8_b2_1 k8_b3_0 g8_b3_0 k8_b3_1 g8_b3_1 k8_g5_0 g8_g5_0 k8_g5_1 g8_g5_1 B8 z8; intro f hf; have u3 : f 3 = (.pointer (some ⟨w.heap.size + 1, 0, none⟩)) := (by rw [← hf]; rfl); clear hf; rintro w' ⟨h0, h1, h2, h3, h4, h5, h6, h7, h8, h9, h10, h11⟩; go_simp; try exact IntWalk.i64_in _ (by omega)
      refine obe_val (by rfl) ?_ ?_
      · clear k8_b2_0 g8_b2_0 k8_b2_1 g8_b2_1 k8_b3_0 g8_b3_0 k8_b3_1 g8_b3_1 k8_g5_0 g8_g5_0 k8_g5_1 g8_g5_1 B8 z8; intro f hf; have u117 : f 117 = (.agg #[.int .i64 x, .int .i64 y]) := (by rw [← hf]; rfl); have u118 : f 118 = (.agg #[.int .i64 u, .int .i64 v]) := (by rw [← hf]; rfl); clear hf; rintro w' ⟨h0, h1, h2, h3, h4, h5, h6, h7, h8, h9, h10, h11⟩; go_simp; try exact IntWalk.i64_in _ (by omega)
      refine obe_val (by rfl) ?_ ?_
      · clear k8_b2_0 g8_b2_0 k8_b2_1 g8_b2_1 k8_b3_0 g8_b3_0 k8_b3_1 g8_b3_1 k8_g5_0 g8_g5_0 k8_g5_1 g8_g5_1 B8 z8; intro f hf; have u116 : f 116 = (.bool false) := (by rw [← hf]; rfl); have u119 : f 119 = (.bool false) := (by rw [← hf]; rfl); clear hf; rintro w' ⟨h0, h1, h2, h3, h4, h5, h6, h7, h8, h9, h10, h11⟩; go_simp; try exact IntWalk.i64_in _ (by omega)
      refine obe_val (by rfl) ?_ ?_
      · clear k8_b2_0 g8_b2_0 k8_b2_1 g8_b2_1 k8_b3_0 g8_b3_0 k8_b3_1 g8_b3_1 k8_g5_0 g8_g5_0 k8_g5_1 g8_g5_1 B8 z8; intro f hf; have u108 : f 108 = (.bool true) := (by rw [← hf]; rfl); have u120 : f 120 = (.bool true) := (by rw [← hf]; rfl); clear hf; rintro w' ⟨h0, h1, h2, h3, h4, h5, h6, h7, h8, h9, h10, h11⟩; go_simp; try exact IntWalk.i64_in _ (by omega)
      refine obe_val (by rfl) ?_ ?_
      · clear k8_b2_0 g8_b2_0 k8_b2_1 g8_b2_1 k8_b3_0 g8_b3_0 k8_b3_1 g8_b3_1 k8_g5_0 g8_g5_0 k8_g5_1 g8_g5_1 B8 z8; intro f hf; have u121 : f 121 = (.bool true) := (by rw [← hf]; rfl); clear hf; rintro w' ⟨h0, h1, h2, h3, h4, h5, h6, h7, h8, h9, h10, h11⟩; go_simp; try exact IntWalk.i64_in _ (by omega)
      refine obe_val (by rfl) ?_ ?_
      · clear k8_b2_0 g8_b2_0 k8_b2_1 g8_b2_1 k8_b3_0 g8_b3_0 k8_b3_1 g8_b3_1 k8_g5_0 g8_g5_0 k8_g5_1 g8_g5_1 B8 z8; intro f hf; have u2 : f 2 = (.pointer (some ⟨w.heap.size, 0, none⟩)) := (by rw [← hf]; rfl); clear hf; rintro w' ⟨h0, h1, h2, h3, h4, h5, h6, h7, h8, h9, h10, h11⟩; go_simp; try exact IntWalk.i64_in _ (by omega)
      refine obe_val (by rfl) ?_ ?_
      · clear k8_b2_0 g8_b2_0 k8_b2_1 g8_b2_1 k8_b3_0 g8_b3_0 k8_b3_1 g8_b3_1 k8_g5_0 g8_g5_0 k8_g5_1 g8_g5_1 B8 z8; intro f hf; have u3 : f 3 = (.pointer (some ⟨w.heap.size + 1, 0, none⟩)) := (by rw [← hf]; rfl); clear hf; rintro w' ⟨h0, h1, h2, h3, h4, h5, h6, h7, h8, h9, h10, h11⟩; go_simp; try exact IntWalk.i64_in _ (by omega)
      refine obe_call (by rfl) ?_ ?_ ?_
      · clear k8_b2_0 g8_b2_0 k8_b2_1 g8_b2_1 k8_b3_0 g8_b3_0 k8_b3_1 g8_b3_1 k8_g5_0 g8_g5_0 k8_g5_1 g8_g5_1 B8 z8; intro f hf; have u123 : f 123 = (.agg #[.int .i64 x, .int .i64 y]) := (by rw [← hf]; rfl); have u124 : f 124 = (.agg #[.int .i64 u, .int .i64 v]) := (by rw [← hf]; rfl); clear hf; intro w' _; simp only [execOp, resolve, invoke, rhoF_tmp, rhoF_func, rhoF_const, u123, u124, List.map_toArray, List.map_cons, List.map_nil]; go_simp
      · clear k8_b2_0 g8_b2_0 k8_b2_1 g8_b2_1 k8_b3_0 g8_b3_0 k8_b3_1 g8_b3_1 k8_g5_0 g8_g5_0 k8_g5_1 g8_g5_1 B8 z8; rintro w' ⟨h0, h1, h2, h3, h4, h5, h6, h7, h8, h9, h10, h11⟩; exact l1 _
      refine obe_val (by rfl) ?_ ?_
      · clear k8_b2_0 g8_b2_0 k8_b2_1 g8_b2_1 k8_b3_0 g8_b3_0 k8_b3_1 g8_b3_1 k8_g5_0 g8_g5_0 k8_g5_1 g8_g5_1 B8 z8; intro f hf; have u125 : f 125 = (.bool false) := (by rw [← hf]; rfl); clear hf; rintro w' ⟨h0, h1, h2, h3, h4, h5, h6, h7, h8, h9, h10, h11⟩; go_simp; try exact IntWalk.i64_in _ (by omega)
      refine obe_skip (by rfl) ?_
      refine obe_skip (by rfl) ?_
      refine obe_skip (by rfl) ?_
      refine obe_val (by rfl) ?_ ?_
      · clear k8_b2_0 g8_b2_0 k8_b2_1 g8_b2_1 k8_b3_0 g8_b3_0 k8_b3_1 g8_b3_1 k8_g5_0 g8_g5_0 k8_g5_1 g8_g5_1 B8 z8; intro f hf; have u126 : f 126 = (.bool false) := (by rw [← hf]; rfl); clear hf; rintro w' ⟨h0, h1, h2, h3, h4, h5, h6, h7, h8, h9, h10, h11⟩; go_simp; try exact IntWalk.i64_in _ (by omega)
      refine obe_val (by rfl) ?_ ?_
      · clear k8_b2_0 g8_b2_0 k8_b2_1 g8_b2_1 k8_b3_0 g8_b3_0 k8_b3_1 g8_b3_1 k8_g5_0 g8_g5_0 k8_g5_1 g8_g5_1 B8 z8; intro f hf; have u130 : f 130 = (.bool false) := (by rw [← hf]; rfl); clear hf; rintro w' ⟨h0, h1, h2, h3, h4, h5, h6, h7, h8, h9, h10, h11⟩; go_simp; try exact IntWalk.i64_in _ (by omega)
      refine obe_val (by rfl) ?_ ?_
      · clear k8_b2_0 g8_b2_0 k8_b2_1 g8_b2_1 k8_b3_0 g8_b3_0 k8_b3_1 g8_b3_1 k8_g5_0 g8_g5_0 k8_g5_1 g8_g5_1 B8 z8; intro f hf; have u122 : f 122 = (.bool true) := (by rw [← hf]; rfl); have u131 : f 131 = (.bool true) := (by rw [← hf]; rfl); clear hf; rintro w' ⟨h0, h1, h2, h3, h4, h5, h6, h7, h8, h9, h10, h11⟩; go_simp; try exact IntWalk.i64_in _ (by omega)
      refine obe_val (by rfl) ?_ ?_
      · clear k8_b2_0 g8_b2_0 k8_b2_1 g8_b2_1 k8_b3_0 g8_b3_0 k8_b3_1 g8_b3_1 k8_g5_0 g8_g5_0 k8_g5_1 g8_g5_1 B8 z8; intro f hf; have u132 : f 132 = (.bool true) := (by rw [← hf]; rfl); clear hf; rintro w' ⟨h0, h1, h2, h3, h4, h5, h6, h7, h8, h9, h10, h11⟩; go_simp; try exact IntWalk.i64_in _ (by omega)
      refine obe_call (by rfl) ?_ ?_ ?_
      · clear k8_b2_0 g8_b2_0 k8_b2_1 g8_b2_1 k8_b3_0 g8_b3_0 k8_b3_1 g8_b3_1 k8_g5_0 g8_g5_0 k8_g5_1 g8_g5_1 B8 z8; intro f hf; clear hf; intro w' _; simp only [execOp, resolve, invoke, rhoF_tmp, rhoF_func, rhoF_const, List.map_toArray, List.map_cons, List.map_nil]; go_simp
      · clear k8_b2_0 g8_b2_0 k8_b2_1 g8_b2_1 k8_b3_0 g8_b3_0 k8_b3_1 g8_b3_1 k8_g5_0 g8_g5_0 k8_g5_1 g8_g5_1 B8 z8; rintro w' ⟨h0, h1, h2, h3, h4, h5, h6, h7, h8, h9, h10, h11⟩; exact example_any _
      refine obe_val (by rfl) ?_ ?_
      · clear k8_b2_0 g8_b2_0 k8_b2_1 g8_b2_1 k8_b3_0 g8_b3_0 k8_b3_1 g8_b3_1 k8_g5_0 g8_g5_0 k8_g5_1 g8_g5_1 B8 z8; intro f hf; have u133 : f 133 = (.bool true) := (by rw [← hf]; rfl); have u134 : f 134 = (.bool true) := (by rw [← hf]; rfl); clear hf; rintro w' ⟨h0, h1, h2, h3, h4, h5, h6, h7, h8, h9, h10, h11⟩; go_simp; try exact IntWalk.i64_in _ (by omega)
      refine obe_val (by rfl) ?_ ?_
      · clear k8_b2_0 g8_b2_0 k8_b2_1 g8_b2_1 k8_b3_0 g8_b3_0 k8_b3_1 g8_b3_1 k8_g5_0 g8_g5_0 k8_g5_1 g8_g5_1 B8 z8; intro f hf; have u135 : f 135 = (.bool true) := (by rw [← hf]; rfl); clear hf; rintro w' ⟨h0, h1, h2, h3, h4, h5, h6, h7, h8, h9, h10, h11⟩; go_simp; try exact IntWalk.i64_in _ (by omega)
      refine obe_nil ?_
      rintro w9 ⟨h0, h1, h2, h3, h4, h5, h6, h7, h8, h9, h10, h11⟩ hb9 hF
      (try simp only [List.nil_append, List.append_nil, List.cons_append] at hF)
      simp only [puts, putD, Act.put, List.setIfInBounds_toArray, List.set_cons_zero, List.set_cons_succ]
      clear hF
      have k9_b2_0 := bcs hb9 k8_b2_0
      have g9_b2_0 := bfs hb9 k8_b2_0 g8_b2_0
      have k9_b2_1 := bcs hb9 k8_b2_1
      have g9_b2_1 := bfs hb9 k8_b2_1 g8_b2_1
      have k9_b3_0 := bcs hb9 k8_b3_0
      have g9_b3_0 := bfs hb9 k8_b3_0 g8_b3_0
      have k9_b3_1 := bcs hb9 k8_b3_1
      have g9_b3_1 := bfs hb9 k8_b3_1 g8_b3_1
      have k9_g5_0 := bcs hb9 k8_g5_0
      have g9_g5_0 := bfs hb9 k8_g5_0 g8_g5_0
      have k9_g5_1 := bcs hb9 k8_g5_1
      have g9_g5_1 := bfs hb9 k8_g5_1 g8_g5_1
      clear h0 h1 h2 h3 h4 h5 h6 h7 h8 h9 h10 h11
      have B9 := bel_step B8 hb9
      have z9 := Nat.le_trans z8 hb9.size
      clear hb9
      (try clear B8)
      (try clear z8)
      (try clear k8_b2_0)
      (try clear g8_b2_0)
      (try clear k8_b2_1)
      (try clear g8_b2_1)
      (try clear k8_b3_0)
      (try clear g8_b3_0)
      (try clear k8_b3_1)
      (try clear g8_b3_1)
      (try clear k8_g5_0)
      (try clear g8_g5_0)
      (try clear k8_g5_1)
      (try clear g8_g5_1)
      (try clear q8_b2)
      (try clear x8_b2)
      (try clear y8_b2)
      (try clear q8_b3)
      (try clear x8_b3)
      (try clear y8_b3)
      (try clear q8_g5)
      (try clear x8_g5)
      (try clear y8_g5)
      have q9_b2 : w.heap.size < w9.heap.size := qlt k9_b2_0
      have x9_b2 : ¬ w.heap.size = w9.heap.size := qne k9_b2_0
      have y9_b2 : ¬ w9.heap.size = w.heap.size := fun h => qne k9_b2_0 h.symm
      have q9_b3 : w.heap.size + 1 < w9.heap.size := qlt k9_b3_0
      have x9_b3 : ¬ w.heap.size + 1 = w9.heap.size := qne k9_b3_0
      have y9_b3 : ¬ w9.heap.size = w.heap.size + 1 := fun h => qne k9_b3_0 h.symm
      have q9_g5 : w3.heap.size < w9.heap.size := qlt k9_g5_0
      have x9_g5 : ¬ w3.heap.size = w9.heap.size := qne k9_g5_0
      have y9_g5 : ¬ w9.heap.size = w3.heap.size := fun h => qne k9_g5_0 h.symm
      unfold wpList
      go_wp2
      go_ret
      refine ⟨rfl, ?_⟩
      repeat (first | with_reducible exact Below.refl _ _ | with_reducible exact B9 | with_reducible apply below_drewN | with_reducible apply Below.drew | (with_reducible refine Below.alloc ?_ (by first | (simp; done) | (simp; omega) | omega) _) | (with_reducible refine Below.setCell ?_ (by first | (simp; done) | (simp; omega) | omega) _))
end Go.Proofs.Ytahdnlebokmajaa
