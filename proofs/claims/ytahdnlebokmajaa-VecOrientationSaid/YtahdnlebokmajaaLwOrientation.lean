import Derived.Test.YtahdnlebokmajaaV4
import Derived.Test.YtahdnlebokmajaaVex
import Derived.WalkKit
import Derived.WalkSpells
import Derived.WalkLawsBesides
import Derived.Lib.Hide
import Derived.Below
import Derived.Deep.QuietTactic
import Derived.BigQuiet
import Derived.Deep.RegionHeld3
import Derived.Deep.DrawnRows
import Derived.Deep.DeepFit
import Derived.IntWalk
namespace Go.Proofs.Ytahdnlebokmajaa
open Go.RowKit
set_option linter.unusedVariables false
set_option linter.unusedSimpArgs false
attribute [local go_sem ↓] Go.wp_at_zero Go.wp_at_succ
theorem ori_bd (x y u v s t : Int) : -1 ≤ oriV x y u v s t ∧ oriV x y u v s t ≤ 1 := sgn3_bd _
theorem ori_swap (x y u v s t : Int) : oriV u v x y s t = -oriV x y u v s t := by unfold oriV; rw [crs_swap, sgn3_opp]
theorem ori_rot (x y u v s t : Int) : oriV u v s t x y = oriV x y u v s t := by unfold oriV; rw [crs_rot]
theorem ori_rot2 (x y u v s t : Int) : oriV s t x y u v = oriV x y u v s t := by unfold oriV; rw [crs_rot2]
theorem ori_swap2 (x y u v s t : Int) : oriV x y s t u v = -oriV x y u v s t := by unfold oriV; rw [crs_swap2, sgn3_opp]
theorem ons_a (x y u v : Int) : onsB x y u v x y = true := by
  have h1 : oriV x y u v x y = 0 := by unfold oriV; rw [crs_self]; rfl
  have h2 := (dotp_self (hold x) (hold y) (hold u) (hold v)).1
  simp [onsB, h1, h2]
theorem ons_b (x y u v : Int) : onsB x y u v u v = true := by
  have h1 : oriV x y u v u v = 0 := by unfold oriV; rw [crs_self2]; rfl
  have h2 := (dotp_self (hold x) (hold y) (hold u) (hold v)).2
  simp [onsB, h1, h2]
theorem ons_swap (x y u v s t : Int) : onsB u v x y s t = onsB x y u v s t := by
  unfold onsB
  rw [ori_swap, dotp_swap]
  congr 1
  exact decide_eq_decide.2 (by omega)
theorem ons_ori (x y u v s t : Int) (h : onsB x y u v s t = true) : oriV x y u v s t = 0 := by
  unfold onsB at h
  simp only [Bool.and_eq_true, decide_eq_true_eq] at h
  exact h.1
theorem ori_shift (x y u v s t : Int) (hx : -99999 ≤ x ∧ x ≤ 99999) (hy : -99999 ≤ y ∧ y ≤ 99999) (hu : -99999 ≤ u ∧ u ≤ 99999) (hv : -99999 ≤ v ∧ v ≤ 99999) (hs : -99999 ≤ s ∧ s ≤ 99999) (ht : -99999 ≤ t ∧ t ≤ 99999) :
    oriV (x + s) (y + t) (u + s) (v + t) (s + s) (t + t) = oriV x y u v s t := by
  unfold oriV
  rw [hold_id (x + s) (by omega) (by omega), hold_id (y + t) (by omega) (by omega), hold_id (u + s) (by omega) (by omega), hold_id (v + t) (by omega) (by omega), hold_id (s + s) (by omega) (by omega), hold_id (t + t) (by omega) (by omega),
    hold_id x (by omega) (by omega), hold_id y (by omega) (by omega), hold_id u (by omega) (by omega), hold_id v (by omega) (by omega), hold_id s (by omega) (by omega), hold_id t (by omega) (by omega), crs_shift]
theorem ori_turn (x y u v s t : Int) (hx : -99999 ≤ x ∧ x ≤ 99999) (hy : -99999 ≤ y ∧ y ≤ 99999) (hu : -99999 ≤ u ∧ u ≤ 99999) (hv : -99999 ≤ v ∧ v ≤ 99999) (hs : -99999 ≤ s ∧ s ≤ 99999) (ht : -99999 ≤ t ∧ t ≤ 99999) :
    oriV (-y) x (-v) u (-t) s = oriV x y u v s t := by
  unfold oriV
  rw [hold_id (-y) (by omega) (by omega), hold_id (-v) (by omega) (by omega), hold_id (-t) (by omega) (by omega),
    hold_id x (by omega) (by omega), hold_id y (by omega) (by omega), hold_id u (by omega) (by omega), hold_id v (by omega) (by omega), hold_id s (by omega) (by omega), hold_id t (by omega) (by omega), crs_turn]
theorem tmod5 (a : Int) : -99999 ≤ a.tmod 100000 ∧ a.tmod 100000 ≤ 99999 := by
  have h1 := Int.tmod_lt_of_pos a (b := 100000) (by omega)
  have h2 := Int.lt_tmod_of_pos a (b := 100000) (by omega)
  omega
theorem vadd_small (x y u v : Int) (hx : -99999 ≤ x ∧ x ≤ 99999) (hy : -99999 ≤ y ∧ y ≤ 99999) (hu : -99999 ≤ u ∧ u ≤ 99999) (hv : -99999 ≤ v ∧ v ≤ 99999) (w : World) :
    Calls Try.prog 11 #[.agg #[.int .i64 x, .int .i64 y], .agg #[.int .i64 u, .int .i64 v]] w fun e w' => e = .returned (.agg #[.int .i64 (x + u), .int .i64 (y + v)]) ∧ Below w.heap.size w w' := by
  have h := vadd_any x y u v w
  rw [hold_id x (by omega) (by omega), hold_id y (by omega) (by omega), hold_id u (by omega) (by omega), hold_id v (by omega) (by omega)] at h
  exact h
theorem vperp_small (x y : Int) (hx : -99999 ≤ x ∧ x ≤ 99999) (hy : -99999 ≤ y ∧ y ≤ 99999) (w : World) :
    Calls Try.prog 15 #[.agg #[.int .i64 x, .int .i64 y]] w fun e w' => e = .returned (.agg #[.int .i64 (-y), .int .i64 x]) ∧ Below w.heap.size w w' := by
  have h := vperp_any x y w
  rw [hold_id x (by omega) (by omega), hold_id y (by omega) (by omega)] at h
  exact h

set_option maxRecDepth 20000 in
set_option maxHeartbeats 8000000 in
theorem vecOrientation_w (x y u v s t : Int) (w : World) :
    Calls Try.prog 6 #[.agg #[.int .i64 x, .int .i64 y], .agg #[.int .i64 u, .int .i64 v], .agg #[.int .i64 s, .int .i64 t]] w fun e w' => e = .returned (.bool true) ∧ Below w.heap.size w w' := by
  have c1 := fun w => vori_any x y u v s t w
  have c2 := fun w => vori_any u v x y s t w
  have c3 := fun w => vori_any u v s t x y w
  have c4 := fun w => vori_any s t x y u v w
  have c5 := fun w => vori_any x y s t u v w
  rw [ori_swap] at c2
  rw [ori_rot] at c3
  rw [ori_rot2] at c4
  rw [ori_swap2] at c5
  have d1 := fun w => vons_any x y u v x y w
  have d2 := fun w => vons_any x y u v u v w
  have d3 := fun w => vons_any x y u v s t w
  have d4 := fun w => vons_any u v x y s t w
  rw [ons_a] at d1
  rw [ons_b] at d2
  rw [ons_swap] at d4
  have e1 := fun w => small_any x y w
  have e2 := fun w => small_any u v w
  have e3 := fun w => small_any s t w
  have hX := tmod5 x
  have hY := tmod5 y
  have hU := tmod5 u
  have hZ := tmod5 v
  have hS := tmod5 s
  have hT := tmod5 t
  obtain ⟨X, eX⟩ : ∃ X, x.tmod 100000 = X := ⟨_, rfl⟩
  obtain ⟨Y, eY⟩ : ∃ X, y.tmod 100000 = X := ⟨_, rfl⟩
  obtain ⟨U, eU⟩ : ∃ X, u.tmod 100000 = X := ⟨_, rfl⟩
  obtain ⟨Z, eZ⟩ : ∃ X, v.tmod 100000 = X := ⟨_, rfl⟩
  obtain ⟨S, eS⟩ : ∃ X, s.tmod 100000 = X := ⟨_, rfl⟩
  obtain ⟨T, eT⟩ : ∃ X, t.tmod 100000 = X := ⟨_, rfl⟩
  rw [eX] at hX
  rw [eY] at hY
  rw [eU] at hU
  rw [eZ] at hZ
  rw [eS] at hS
  rw [eT] at hT
  rw [eX, eY] at e1
  rw [eU, eZ] at e2
  rw [eS, eT] at e3
  clear eX eY eU eZ eS eT
  have m1 := fun w => vori_any X Y U Z S T w
  have m2 := fun w => vori_any (X + S) (Y + T) (U + S) (Z + T) (S + S) (T + T) w
  have m3 := fun w => vori_any (-Y) X (-Z) U (-T) S w
  rw [ori_shift X Y U Z S T hX hY hU hZ hS hT] at m2
  rw [ori_turn X Y U Z S T hX hY hU hZ hS hT] at m3
  obtain ⟨M, eM⟩ : ∃ M, oriV X Y U Z S T = M := ⟨_, rfl⟩
  rw [eM] at m1 m2 m3
  clear eM
  obtain ⟨o0, o1⟩ := ori_bd x y u v s t
  have hn := ons_ori x y u v s t
  obtain ⟨O, eO⟩ : ∃ O, oriV x y u v s t = O := ⟨_, rfl⟩
  rw [eO] at c1 c2 c3 c4 c5 o0 o1 hn
  clear eO
  obtain ⟨N, eN⟩ : ∃ N, onsB x y u v s t = N := ⟨_, rfl⟩
  rw [eN] at d3 d4 hn
  clear eN
  cases N with
  | false =>
    clear hn
    go_enter Try.func6, Try.ntmps6
    go_wp2_with (first | (go_at_call 26; (with_reducible refine (c1 _).mono ?_); rintro e w1 ⟨rfl, hb1⟩; have k1_b3_0 : w1.cell? ⟨w.heap.size, 0, none⟩ = some (.int .i64 x) := bcs hb1 (by go_simp); have g1_b3_0 : w1.frozen? ⟨w.heap.size, 0, none⟩ = false := bfs hb1 (v := .int .i64 x) (by go_simp) (by go_simp); have k1_b3_1 : w1.cell? ⟨w.heap.size, 1, none⟩ = some (.int .i64 y) := bcs hb1 (by go_simp); have g1_b3_1 : w1.frozen? ⟨w.heap.size, 1, none⟩ = false := bfs hb1 (v := .int .i64 y) (by go_simp) (by go_simp); have k1_b4_0 : w1.cell? ⟨w.heap.size + 1, 0, none⟩ = some (.int .i64 u) := bcs hb1 (by go_simp); have g1_b4_0 : w1.frozen? ⟨w.heap.size + 1, 0, none⟩ = false := bfs hb1 (v := .int .i64 u) (by go_simp) (by go_simp); have k1_b4_1 : w1.cell? ⟨w.heap.size + 1, 1, none⟩ = some (.int .i64 v) := bcs hb1 (by go_simp); have g1_b4_1 : w1.frozen? ⟨w.heap.size + 1, 1, none⟩ = false := bfs hb1 (v := .int .i64 v) (by go_simp) (by go_simp); have k1_b5_0 : w1.cell? ⟨w.heap.size + 1 + 1, 0, none⟩ = some (.int .i64 s) := bcs hb1 (by go_simp); have g1_b5_0 : w1.frozen? ⟨w.heap.size + 1 + 1, 0, none⟩ = false := bfs hb1 (v := .int .i64 s) (by go_simp) (by go_simp); have k1_b5_1 : w1.cell? ⟨w.heap.size + 1 + 1, 1, none⟩ = some (.int .i64 t) := bcs hb1 (by go_simp); have g1_b5_1 : w1.frozen? ⟨w.heap.size + 1 + 1, 1, none⟩ = false := bfs hb1 (v := .int .i64 t) (by go_simp) (by go_simp); have q1_b3 : w.heap.size < w1.heap.size := qlt k1_b3_0; have x1_b3 : ¬ w.heap.size = w1.heap.size := qne k1_b3_0; have y1_b3 : ¬ w1.heap.size = w.heap.size := fun h => qne k1_b3_0 h.symm; have q1_b4 : w.heap.size + 1 < w1.heap.size := qlt k1_b4_0; have x1_b4 : ¬ w.heap.size + 1 = w1.heap.size := qne k1_b4_0; have y1_b4 : ¬ w1.heap.size = w.heap.size + 1 := fun h => qne k1_b4_0 h.symm; have q1_b5 : w.heap.size + 1 + 1 < w1.heap.size := qlt k1_b5_0; have x1_b5 : ¬ w.heap.size + 1 + 1 = w1.heap.size := qne k1_b5_0; have y1_b5 : ¬ w1.heap.size = w.heap.size + 1 + 1 := fun h => qne k1_b5_0 h.symm; have B1 : Below w.heap.size w w1 := bel_step (by repeat (first | with_reducible exact Below.refl _ _ | fail | with_reducible apply below_drewN | with_reducible apply Below.drew | (with_reducible refine Below.alloc ?_ (by first | (simp; done) | (simp; omega) | omega) _) | (with_reducible refine Below.setCell ?_ (by first | (simp; done) | (simp; omega) | omega) _))) hb1; have z1 : w.heap.size + 1 + 1 + 1 ≤ w1.heap.size := Nat.le_trans (by first | with_reducible assumption | (simp; done) | (simp; omega)) hb1.size; clear hb1) | (go_at_call 26; (with_reducible refine (c2 _).mono ?_); rintro e w2 ⟨rfl, hb2⟩; have k2_b3_0 : w2.cell? ⟨w.heap.size, 0, none⟩ = some (.int .i64 x) := bcs hb2 (by go_simp); have g2_b3_0 : w2.frozen? ⟨w.heap.size, 0, none⟩ = false := bfs hb2 (v := .int .i64 x) (by go_simp) (by go_simp); have k2_b3_1 : w2.cell? ⟨w.heap.size, 1, none⟩ = some (.int .i64 y) := bcs hb2 (by go_simp); have g2_b3_1 : w2.frozen? ⟨w.heap.size, 1, none⟩ = false := bfs hb2 (v := .int .i64 y) (by go_simp) (by go_simp); have k2_b4_0 : w2.cell? ⟨w.heap.size + 1, 0, none⟩ = some (.int .i64 u) := bcs hb2 (by go_simp); have g2_b4_0 : w2.frozen? ⟨w.heap.size + 1, 0, none⟩ = false := bfs hb2 (v := .int .i64 u) (by go_simp) (by go_simp); have k2_b4_1 : w2.cell? ⟨w.heap.size + 1, 1, none⟩ = some (.int .i64 v) := bcs hb2 (by go_simp); have g2_b4_1 : w2.frozen? ⟨w.heap.size + 1, 1, none⟩ = false := bfs hb2 (v := .int .i64 v) (by go_simp) (by go_simp); have k2_b5_0 : w2.cell? ⟨w.heap.size + 1 + 1, 0, none⟩ = some (.int .i64 s) := bcs hb2 (by go_simp); have g2_b5_0 : w2.frozen? ⟨w.heap.size + 1 + 1, 0, none⟩ = false := bfs hb2 (v := .int .i64 s) (by go_simp) (by go_simp); have k2_b5_1 : w2.cell? ⟨w.heap.size + 1 + 1, 1, none⟩ = some (.int .i64 t) := bcs hb2 (by go_simp); have g2_b5_1 : w2.frozen? ⟨w.heap.size + 1 + 1, 1, none⟩ = false := bfs hb2 (v := .int .i64 t) (by go_simp) (by go_simp); have q2_b3 : w.heap.size < w2.heap.size := qlt k2_b3_0; have x2_b3 : ¬ w.heap.size = w2.heap.size := qne k2_b3_0; have y2_b3 : ¬ w2.heap.size = w.heap.size := fun h => qne k2_b3_0 h.symm; have q2_b4 : w.heap.size + 1 < w2.heap.size := qlt k2_b4_0; have x2_b4 : ¬ w.heap.size + 1 = w2.heap.size := qne k2_b4_0; have y2_b4 : ¬ w2.heap.size = w.heap.size + 1 := fun h => qne k2_b4_0 h.symm; have q2_b5 : w.heap.size + 1 + 1 < w2.heap.size := qlt k2_b5_0; have x2_b5 : ¬ w.heap.size + 1 + 1 = w2.heap.size := qne k2_b5_0; have y2_b5 : ¬ w2.heap.size = w.heap.size + 1 + 1 := fun h => qne k2_b5_0 h.symm; have B2 : Below w.heap.size w w2 := bel_step (by repeat (first | with_reducible exact Below.refl _ _ | with_reducible exact B1 | with_reducible apply below_drewN | with_reducible apply Below.drew | (with_reducible refine Below.alloc ?_ (by first | (simp; done) | (simp; omega) | omega) _) | (with_reducible refine Below.setCell ?_ (by first | (simp; done) | (simp; omega) | omega) _))) hb2; have z2 : w.heap.size + 1 + 1 + 1 ≤ w2.heap.size := Nat.le_trans (by first | with_reducible assumption | (simp; done) | (simp; omega)) hb2.size; clear hb2; (try clear k1_b3_0); (try clear g1_b3_0); (try clear k1_b3_1); (try clear g1_b3_1); (try clear k1_b4_0); (try clear g1_b4_0); (try clear k1_b4_1); (try clear g1_b4_1); (try clear k1_b5_0); (try clear g1_b5_0); (try clear k1_b5_1); (try clear g1_b5_1); (try clear B1); (try clear z1); (try clear q1_b3); (try clear x1_b3); (try clear y1_b3); (try clear q1_b4); (try clear x1_b4); (try clear y1_b4); (try clear q1_b5); (try clear x1_b5); (try clear y1_b5)) | (go_at_call 26; (with_reducible refine (c3 _).mono ?_); rintro e w3 ⟨rfl, hb3⟩; have k3_b3_0 : w3.cell? ⟨w.heap.size, 0, none⟩ = some (.int .i64 x) := bcs hb3 (by go_simp); have g3_b3_0 : w3.frozen? ⟨w.heap.size, 0, none⟩ = false := bfs hb3 (v := .int .i64 x) (by go_simp) (by go_simp); have k3_b3_1 : w3.cell? ⟨w.heap.size, 1, none⟩ = some (.int .i64 y) := bcs hb3 (by go_simp); have g3_b3_1 : w3.frozen? ⟨w.heap.size, 1, none⟩ = false := bfs hb3 (v := .int .i64 y) (by go_simp) (by go_simp); have k3_b4_0 : w3.cell? ⟨w.heap.size + 1, 0, none⟩ = some (.int .i64 u) := bcs hb3 (by go_simp); have g3_b4_0 : w3.frozen? ⟨w.heap.size + 1, 0, none⟩ = false := bfs hb3 (v := .int .i64 u) (by go_simp) (by go_simp); have k3_b4_1 : w3.cell? ⟨w.heap.size + 1, 1, none⟩ = some (.int .i64 v) := bcs hb3 (by go_simp); have g3_b4_1 : w3.frozen? ⟨w.heap.size + 1, 1, none⟩ = false := bfs hb3 (v := .int .i64 v) (by go_simp) (by go_simp); have k3_b5_0 : w3.cell? ⟨w.heap.size + 1 + 1, 0, none⟩ = some (.int .i64 s) := bcs hb3 (by go_simp); have g3_b5_0 : w3.frozen? ⟨w.heap.size + 1 + 1, 0, none⟩ = false := bfs hb3 (v := .int .i64 s) (by go_simp) (by go_simp); have k3_b5_1 : w3.cell? ⟨w.heap.size + 1 + 1, 1, none⟩ = some (.int .i64 t) := bcs hb3 (by go_simp); have g3_b5_1 : w3.frozen? ⟨w.heap.size + 1 + 1, 1, none⟩ = false := bfs hb3 (v := .int .i64 t) (by go_simp) (by go_simp); have q3_b3 : w.heap.size < w3.heap.size := qlt k3_b3_0; have x3_b3 : ¬ w.heap.size = w3.heap.size := qne k3_b3_0; have y3_b3 : ¬ w3.heap.size = w.heap.size := fun h => qne k3_b3_0 h.symm; have q3_b4 : w.heap.size + 1 < w3.heap.size := qlt k3_b4_0; have x3_b4 : ¬ w.heap.size + 1 = w3.heap.size := qne k3_b4_0; have y3_b4 : ¬ w3.heap.size = w.heap.size + 1 := fun h => qne k3_b4_0 h.symm; have q3_b5 : w.heap.size + 1 + 1 < w3.heap.size := qlt k3_b5_0; have x3_b5 : ¬ w.heap.size + 1 + 1 = w3.heap.size := qne k3_b5_0; have y3_b5 : ¬ w3.heap.size = w.heap.size + 1 + 1 := fun h => qne k3_b5_0 h.symm; have B3 : Below w.heap.size w w3 := bel_step (by repeat (first | with_reducible exact Below.refl _ _ | with_reducible exact B2 | with_reducible apply below_drewN | with_reducible apply Below.drew | (with_reducible refine Below.alloc ?_ (by first | (simp; done) | (simp; omega) | omega) _) | (with_reducible refine Below.setCell ?_ (by first | (simp; done) | (simp; omega) | omega) _))) hb3; have z3 : w.heap.size + 1 + 1 + 1 ≤ w3.heap.size := Nat.le_trans (by first | with_reducible assumption | (simp; done) | (simp; omega)) hb3.size; clear hb3; (try clear k2_b3_0); (try clear g2_b3_0); (try clear k2_b3_1); (try clear g2_b3_1); (try clear k2_b4_0); (try clear g2_b4_0); (try clear k2_b4_1); (try clear g2_b4_1); (try clear k2_b5_0); (try clear g2_b5_0); (try clear k2_b5_1); (try clear g2_b5_1); (try clear B2); (try clear z2); (try clear q2_b3); (try clear x2_b3); (try clear y2_b3); (try clear q2_b4); (try clear x2_b4); (try clear y2_b4); (try clear q2_b5); (try clear x2_b5); (try clear y2_b5)) | (go_at_call 26; (with_reducible refine (c4 _).mono ?_); rintro e w4 ⟨rfl, hb4⟩; have k4_b3_0 : w4.cell? ⟨w.heap.size, 0, none⟩ = some (.int .i64 x) := bcs hb4 (by go_simp); have g4_b3_0 : w4.frozen? ⟨w.heap.size, 0, none⟩ = false := bfs hb4 (v := .int .i64 x) (by go_simp) (by go_simp); have k4_b3_1 : w4.cell? ⟨w.heap.size, 1, none⟩ = some (.int .i64 y) := bcs hb4 (by go_simp); have g4_b3_1 : w4.frozen? ⟨w.heap.size, 1, none⟩ = false := bfs hb4 (v := .int .i64 y) (by go_simp) (by go_simp); have k4_b4_0 : w4.cell? ⟨w.heap.size + 1, 0, none⟩ = some (.int .i64 u) := bcs hb4 (by go_simp); have g4_b4_0 : w4.frozen? ⟨w.heap.size + 1, 0, none⟩ = false := bfs hb4 (v := .int .i64 u) (by go_simp) (by go_simp); have k4_b4_1 : w4.cell? ⟨w.heap.size + 1, 1, none⟩ = some (.int .i64 v) := bcs hb4 (by go_simp); have g4_b4_1 : w4.frozen? ⟨w.heap.size + 1, 1, none⟩ = false := bfs hb4 (v := .int .i64 v) (by go_simp) (by go_simp); have k4_b5_0 : w4.cell? ⟨w.heap.size + 1 + 1, 0, none⟩ = some (.int .i64 s) := bcs hb4 (by go_simp); have g4_b5_0 : w4.frozen? ⟨w.heap.size + 1 + 1, 0, none⟩ = false := bfs hb4 (v := .int .i64 s) (by go_simp) (by go_simp); have k4_b5_1 : w4.cell? ⟨w.heap.size + 1 + 1, 1, none⟩ = some (.int .i64 t) := bcs hb4 (by go_simp); have g4_b5_1 : w4.frozen? ⟨w.heap.size + 1 + 1, 1, none⟩ = false := bfs hb4 (v := .int .i64 t) (by go_simp) (by go_simp); have q4_b3 : w.heap.size < w4.heap.size := qlt k4_b3_0; have x4_b3 : ¬ w.heap.size = w4.heap.size := qne k4_b3_0; have y4_b3 : ¬ w4.heap.size = w.heap.size := fun h => qne k4_b3_0 h.symm; have q4_b4 : w.heap.size + 1 < w4.heap.size := qlt k4_b4_0; have x4_b4 : ¬ w.heap.size + 1 = w4.heap.size := qne k4_b4_0; have y4_b4 : ¬ w4.heap.size = w.heap.size + 1 := fun h => qne k4_b4_0 h.symm; have q4_b5 : w.heap.size + 1 + 1 < w4.heap.size := qlt k4_b5_0; have x4_b5 : ¬ w.heap.size + 1 + 1 = w4.heap.size := qne k4_b5_0; have y4_b5 : ¬ w4.heap.size = w.heap.size + 1 + 1 := fun h => qne k4_b5_0 h.symm; have B4 : Below w.heap.size w w4 := bel_step (by repeat (first | with_reducible exact Below.refl _ _ | with_reducible exact B3 | with_reducible apply below_drewN | with_reducible apply Below.drew | (with_reducible refine Below.alloc ?_ (by first | (simp; done) | (simp; omega) | omega) _) | (with_reducible refine Below.setCell ?_ (by first | (simp; done) | (simp; omega) | omega) _))) hb4; have z4 : w.heap.size + 1 + 1 + 1 ≤ w4.heap.size := Nat.le_trans (by first | with_reducible assumption | (simp; done) | (simp; omega)) hb4.size; clear hb4; (try clear k3_b3_0); (try clear g3_b3_0); (try clear k3_b3_1); (try clear g3_b3_1); (try clear k3_b4_0); (try clear g3_b4_0); (try clear k3_b4_1); (try clear g3_b4_1); (try clear k3_b5_0); (try clear g3_b5_0); (try clear k3_b5_1); (try clear g3_b5_1); (try clear B3); (try clear z3); (try clear q3_b3); (try clear x3_b3); (try clear y3_b3); (try clear q3_b4); (try clear x3_b4); (try clear y3_b4); (try clear q3_b5); (try clear x3_b5); (try clear y3_b5)) | (go_at_call 26; (with_reducible refine (c5 _).mono ?_); rintro e w5 ⟨rfl, hb5⟩; have k5_b3_0 : w5.cell? ⟨w.heap.size, 0, none⟩ = some (.int .i64 x) := bcs hb5 (by go_simp); have g5_b3_0 : w5.frozen? ⟨w.heap.size, 0, none⟩ = false := bfs hb5 (v := .int .i64 x) (by go_simp) (by go_simp); have k5_b3_1 : w5.cell? ⟨w.heap.size, 1, none⟩ = some (.int .i64 y) := bcs hb5 (by go_simp); have g5_b3_1 : w5.frozen? ⟨w.heap.size, 1, none⟩ = false := bfs hb5 (v := .int .i64 y) (by go_simp) (by go_simp); have k5_b4_0 : w5.cell? ⟨w.heap.size + 1, 0, none⟩ = some (.int .i64 u) := bcs hb5 (by go_simp); have g5_b4_0 : w5.frozen? ⟨w.heap.size + 1, 0, none⟩ = false := bfs hb5 (v := .int .i64 u) (by go_simp) (by go_simp); have k5_b4_1 : w5.cell? ⟨w.heap.size + 1, 1, none⟩ = some (.int .i64 v) := bcs hb5 (by go_simp); have g5_b4_1 : w5.frozen? ⟨w.heap.size + 1, 1, none⟩ = false := bfs hb5 (v := .int .i64 v) (by go_simp) (by go_simp); have k5_b5_0 : w5.cell? ⟨w.heap.size + 1 + 1, 0, none⟩ = some (.int .i64 s) := bcs hb5 (by go_simp); have g5_b5_0 : w5.frozen? ⟨w.heap.size + 1 + 1, 0, none⟩ = false := bfs hb5 (v := .int .i64 s) (by go_simp) (by go_simp); have k5_b5_1 : w5.cell? ⟨w.heap.size + 1 + 1, 1, none⟩ = some (.int .i64 t) := bcs hb5 (by go_simp); have g5_b5_1 : w5.frozen? ⟨w.heap.size + 1 + 1, 1, none⟩ = false := bfs hb5 (v := .int .i64 t) (by go_simp) (by go_simp); have q5_b3 : w.heap.size < w5.heap.size := qlt k5_b3_0; have x5_b3 : ¬ w.heap.size = w5.heap.size := qne k5_b3_0; have y5_b3 : ¬ w5.heap.size = w.heap.size := fun h => qne k5_b3_0 h.symm; have q5_b4 : w.heap.size + 1 < w5.heap.size := qlt k5_b4_0; have x5_b4 : ¬ w.heap.size + 1 = w5.heap.size := qne k5_b4_0; have y5_b4 : ¬ w5.heap.size = w.heap.size + 1 := fun h => qne k5_b4_0 h.symm; have q5_b5 : w.heap.size + 1 + 1 < w5.heap.size := qlt k5_b5_0; have x5_b5 : ¬ w.heap.size + 1 + 1 = w5.heap.size := qne k5_b5_0; have y5_b5 : ¬ w5.heap.size = w.heap.size + 1 + 1 := fun h => qne k5_b5_0 h.symm; have B5 : Below w.heap.size w w5 := bel_step (by repeat (first | with_reducible exact Below.refl _ _ | with_reducible exact B4 | with_reducible apply below_drewN | with_reducible apply Below.drew | (with_reducible refine Below.alloc ?_ (by first | (simp; done) | (simp; omega) | omega) _) | (with_reducible refine Below.setCell ?_ (by first | (simp; done) | (simp; omega) | omega) _))) hb5; have z5 : w.heap.size + 1 + 1 + 1 ≤ w5.heap.size := Nat.le_trans (by first | with_reducible assumption | (simp; done) | (simp; omega)) hb5.size; clear hb5; (try clear k4_b3_0); (try clear g4_b3_0); (try clear k4_b3_1); (try clear g4_b3_1); (try clear k4_b4_0); (try clear g4_b4_0); (try clear k4_b4_1); (try clear g4_b4_1); (try clear k4_b5_0); (try clear g4_b5_0); (try clear k4_b5_1); (try clear g4_b5_1); (try clear B4); (try clear z4); (try clear q4_b3); (try clear x4_b3); (try clear y4_b3); (try clear q4_b4); (try clear x4_b4); (try clear y4_b4); (try clear q4_b5); (try clear x4_b5); (try clear y4_b5)))
    refine wp_region_ord (fun w' => w'.cell? ⟨w.heap.size, 0, none⟩ = some (.int .i64 x) ∧ w'.frozen? ⟨w.heap.size, 0, none⟩ = false ∧ w'.cell? ⟨w.heap.size, 1, none⟩ = some (.int .i64 y) ∧ w'.frozen? ⟨w.heap.size, 1, none⟩ = false ∧ w'.cell? ⟨w.heap.size + 1, 0, none⟩ = some (.int .i64 u) ∧ w'.frozen? ⟨w.heap.size + 1, 0, none⟩ = false ∧ w'.cell? ⟨w.heap.size + 1, 1, none⟩ = some (.int .i64 v) ∧ w'.frozen? ⟨w.heap.size + 1, 1, none⟩ = false ∧ w'.cell? ⟨w.heap.size + 1 + 1, 0, none⟩ = some (.int .i64 s) ∧ w'.frozen? ⟨w.heap.size + 1 + 1, 0, none⟩ = false ∧ w'.cell? ⟨w.heap.size + 1 + 1, 1, none⟩ = some (.int .i64 t) ∧ w'.frozen? ⟨w.heap.size + 1 + 1, 1, none⟩ = false) (fun W => W.cell? ⟨w.heap.size, 0, none⟩ = some (.int .i64 x) ∧ W.frozen? ⟨w.heap.size, 0, none⟩ = false ∧ W.cell? ⟨w.heap.size, 1, none⟩ = some (.int .i64 y) ∧ W.frozen? ⟨w.heap.size, 1, none⟩ = false ∧ W.cell? ⟨w.heap.size + 1, 0, none⟩ = some (.int .i64 u) ∧ W.frozen? ⟨w.heap.size + 1, 0, none⟩ = false ∧ W.cell? ⟨w.heap.size + 1, 1, none⟩ = some (.int .i64 v) ∧ W.frozen? ⟨w.heap.size + 1, 1, none⟩ = false ∧ W.cell? ⟨w.heap.size + 1 + 1, 0, none⟩ = some (.int .i64 s) ∧ W.frozen? ⟨w.heap.size + 1 + 1, 0, none⟩ = false ∧ W.cell? ⟨w.heap.size + 1 + 1, 1, none⟩ = some (.int .i64 t) ∧ W.frozen? ⟨w.heap.size + 1 + 1, 1, none⟩ = false ∧ Below w.heap.size w W ∧ w.heap.size + 1 + 1 + 1 ≤ W.heap.size) 33 [.val (.agg #[.int .i64 x, .int .i64 y]), .val (.agg #[.int .i64 u, .int .i64 v]), .val (.agg #[.int .i64 x, .int .i64 y]), .call 28 #[.agg #[.int .i64 x, .int .i64 y], .agg #[.int .i64 u, .int .i64 v], .agg #[.int .i64 x, .int .i64 y]] (.bool true), .val (.bool false), .val (.bool false), .val (.agg #[.int .i64 x, .int .i64 y]), .val (.agg #[.int .i64 u, .int .i64 v]), .val (.agg #[.int .i64 u, .int .i64 v]), .call 28 #[.agg #[.int .i64 x, .int .i64 y], .agg #[.int .i64 u, .int .i64 v], .agg #[.int .i64 u, .int .i64 v]] (.bool true), .val (.bool false), .val (.bool false), .val (.bool false), .val (.agg #[.int .i64 x, .int .i64 y]), .val (.agg #[.int .i64 u, .int .i64 v]), .val (.agg #[.int .i64 s, .int .i64 t]), .call 28 #[.agg #[.int .i64 x, .int .i64 y], .agg #[.int .i64 u, .int .i64 v], .agg #[.int .i64 s, .int .i64 t]] (.bool false), .val (.agg #[.int .i64 u, .int .i64 v]), .val (.agg #[.int .i64 x, .int .i64 y]), .val (.agg #[.int .i64 s, .int .i64 t]), .call 28 #[.agg #[.int .i64 u, .int .i64 v], .agg #[.int .i64 x, .int .i64 y], .agg #[.int .i64 s, .int .i64 t]] (.bool false), .val (.bool false), .val (.bool false), .val (.bool false), .val (.agg #[.int .i64 x, .int .i64 y]), .val (.agg #[.int .i64 u, .int .i64 v]), .val (.agg #[.int .i64 s, .int .i64 t]), .call 28 #[.agg #[.int .i64 x, .int .i64 y], .agg #[.int .i64 u, .int .i64 v], .agg #[.int .i64 s, .int .i64 t]] (.bool false), .val (.bool false), .skip, .skip, .val (.bool false), .val (.bool false)] (by kernel_rfl) (by kernel_rfl) (by rintro w1 w2 ⟨h0, h1, h2, h3, h4, h5, h6, h7, h8, h9, h10, h11⟩ hb; exact ⟨bcs hb h0, bfs hb h0 h1, bcs hb h2, bfs hb h2 h3, bcs hb h4, bfs hb h4 h5, bcs hb h6, bfs hb h6 h7, bcs hb h8, bfs hb h8 h9, bcs hb h10, bfs hb h10 h11⟩) ⟨by first | with_reducible assumption | go_simp, by first | with_reducible assumption | go_simp, by first | with_reducible assumption | go_simp, by first | with_reducible assumption | go_simp, by first | with_reducible assumption | go_simp, by first | with_reducible assumption | go_simp, by first | with_reducible assumption | go_simp, by first | with_reducible assumption | go_simp, by first | with_reducible assumption | go_simp, by first | with_reducible assumption | go_simp, by first | with_reducible assumption | go_simp, by first | with_reducible assumption | go_simp, by repeat (first | with_reducible exact Below.refl _ _ | with_reducible exact B5 | with_reducible apply below_drewN | with_reducible apply Below.drew | (with_reducible refine Below.alloc ?_ (by first | (simp; done) | (simp; omega) | omega) _) | (with_reducible refine Below.setCell ?_ (by first | (simp; done) | (simp; omega) | omega) _)), by first | with_reducible assumption | (simp; done) | (simp; omega)⟩ ?_ ?_
    · rintro W ⟨k6_b3_0, g6_b3_0, k6_b3_1, g6_b3_1, k6_b4_0, g6_b4_0, k6_b4_1, g6_b4_1, k6_b5_0, g6_b5_0, k6_b5_1, g6_b5_1, B6, z6⟩; exact ⟨k6_b3_0, g6_b3_0, k6_b3_1, g6_b3_1, k6_b4_0, g6_b4_0, k6_b4_1, g6_b4_1, k6_b5_0, g6_b5_0, k6_b5_1, g6_b5_1⟩
    (try clear B5)
    (try clear z5)
    (try clear k5_b3_0)
    (try clear g5_b3_0)
    (try clear k5_b3_1)
    (try clear g5_b3_1)
    (try clear k5_b4_0)
    (try clear g5_b4_0)
    (try clear k5_b4_1)
    (try clear g5_b4_1)
    (try clear k5_b5_0)
    (try clear g5_b5_0)
    (try clear k5_b5_1)
    (try clear g5_b5_1)
    (try clear q5_b3)
    (try clear x5_b3)
    (try clear y5_b3)
    (try clear q5_b4)
    (try clear x5_b4)
    (try clear y5_b4)
    (try clear q5_b5)
    (try clear x5_b5)
    (try clear y5_b5)
    rintro w6 ⟨k6_b3_0, g6_b3_0, k6_b3_1, g6_b3_1, k6_b4_0, g6_b4_0, k6_b4_1, g6_b4_1, k6_b5_0, g6_b5_0, k6_b5_1, g6_b5_1, B6, z6⟩ gg
    simp only [List.take_succ_cons, List.take_zero, List.drop_succ_cons, List.drop_zero, Obs, ob, Sp.get, Sp.news, Act.put, List.setIfInBounds_toArray, List.set_cons_zero, List.set_cons_succ, List.nil_append, List.cons_append, List.append_nil]
    refine ⟨⟨rfl, ?_⟩, ⟨rfl, ?_⟩, ⟨rfl, ?_⟩, ⟨rfl, ?_, ?_⟩, ⟨rfl, ?_⟩, ⟨rfl, ?_⟩, ⟨rfl, ?_⟩, ⟨rfl, ?_⟩, ⟨rfl, ?_⟩, ⟨rfl, ?_, ?_⟩, ⟨rfl, ?_⟩, ⟨rfl, ?_⟩, ⟨rfl, ?_⟩, ⟨rfl, ?_⟩, ⟨rfl, ?_⟩, ⟨rfl, ?_⟩, ⟨rfl, ?_, ?_⟩, ⟨rfl, ?_⟩, ⟨rfl, ?_⟩, ⟨rfl, ?_⟩, ⟨rfl, ?_, ?_⟩, ⟨rfl, ?_⟩, ⟨rfl, ?_⟩, ⟨rfl, ?_⟩, ⟨rfl, ?_⟩, ⟨rfl, ?_⟩, ⟨rfl, ?_⟩, ⟨rfl, ?_, ?_⟩, ⟨rfl, ?_⟩, rfl, rfl, ⟨rfl, ?_⟩, ⟨rfl, ?_⟩, ?_⟩
    · clear k6_b3_0 g6_b3_0 k6_b3_1 g6_b3_1 k6_b4_0 g6_b4_0 k6_b4_1 g6_b4_1 k6_b5_0 g6_b5_0 k6_b5_1 g6_b5_1 B6 z6; rintro w' ⟨h0, h1, h2, h3, h4, h5, h6, h7, h8, h9, h10, h11⟩; go_simp; try exact IntWalk.i64_in _ (by omega)
    · clear k6_b3_0 g6_b3_0 k6_b3_1 g6_b3_1 k6_b4_0 g6_b4_0 k6_b4_1 g6_b4_1 k6_b5_0 g6_b5_0 k6_b5_1 g6_b5_1 B6 z6; rintro w' ⟨h0, h1, h2, h3, h4, h5, h6, h7, h8, h9, h10, h11⟩; go_simp; try exact IntWalk.i64_in _ (by omega)
    · clear k6_b3_0 g6_b3_0 k6_b3_1 g6_b3_1 k6_b4_0 g6_b4_0 k6_b4_1 g6_b4_1 k6_b5_0 g6_b5_0 k6_b5_1 g6_b5_1 B6 z6; rintro w' ⟨h0, h1, h2, h3, h4, h5, h6, h7, h8, h9, h10, h11⟩; go_simp; try exact IntWalk.i64_in _ (by omega)
    · clear k6_b3_0 g6_b3_0 k6_b3_1 g6_b3_1 k6_b4_0 g6_b4_0 k6_b4_1 g6_b4_1 k6_b5_0 g6_b5_0 k6_b5_1 g6_b5_1 B6 z6; rintro w' ⟨h0, h1, h2, h3, h4, h5, h6, h7, h8, h9, h10, h11⟩; go_simp
    · clear k6_b3_0 g6_b3_0 k6_b3_1 g6_b3_1 k6_b4_0 g6_b4_0 k6_b4_1 g6_b4_1 k6_b5_0 g6_b5_0 k6_b5_1 g6_b5_1 B6 z6; rintro w' ⟨h0, h1, h2, h3, h4, h5, h6, h7, h8, h9, h10, h11⟩; exact d1 _
    · clear k6_b3_0 g6_b3_0 k6_b3_1 g6_b3_1 k6_b4_0 g6_b4_0 k6_b4_1 g6_b4_1 k6_b5_0 g6_b5_0 k6_b5_1 g6_b5_1 B6 z6; rintro w' ⟨h0, h1, h2, h3, h4, h5, h6, h7, h8, h9, h10, h11⟩; go_simp; try exact IntWalk.i64_in _ (by omega)
    · clear k6_b3_0 g6_b3_0 k6_b3_1 g6_b3_1 k6_b4_0 g6_b4_0 k6_b4_1 g6_b4_1 k6_b5_0 g6_b5_0 k6_b5_1 g6_b5_1 B6 z6; rintro w' ⟨h0, h1, h2, h3, h4, h5, h6, h7, h8, h9, h10, h11⟩; go_simp; try exact IntWalk.i64_in _ (by omega)
    · clear k6_b3_0 g6_b3_0 k6_b3_1 g6_b3_1 k6_b4_0 g6_b4_0 k6_b4_1 g6_b4_1 k6_b5_0 g6_b5_0 k6_b5_1 g6_b5_1 B6 z6; rintro w' ⟨h0, h1, h2, h3, h4, h5, h6, h7, h8, h9, h10, h11⟩; go_simp; try exact IntWalk.i64_in _ (by omega)
    · clear k6_b3_0 g6_b3_0 k6_b3_1 g6_b3_1 k6_b4_0 g6_b4_0 k6_b4_1 g6_b4_1 k6_b5_0 g6_b5_0 k6_b5_1 g6_b5_1 B6 z6; rintro w' ⟨h0, h1, h2, h3, h4, h5, h6, h7, h8, h9, h10, h11⟩; go_simp; try exact IntWalk.i64_in _ (by omega)
    · clear k6_b3_0 g6_b3_0 k6_b3_1 g6_b3_1 k6_b4_0 g6_b4_0 k6_b4_1 g6_b4_1 k6_b5_0 g6_b5_0 k6_b5_1 g6_b5_1 B6 z6; rintro w' ⟨h0, h1, h2, h3, h4, h5, h6, h7, h8, h9, h10, h11⟩; go_simp; try exact IntWalk.i64_in _ (by omega)
    · clear k6_b3_0 g6_b3_0 k6_b3_1 g6_b3_1 k6_b4_0 g6_b4_0 k6_b4_1 g6_b4_1 k6_b5_0 g6_b5_0 k6_b5_1 g6_b5_1 B6 z6; rintro w' ⟨h0, h1, h2, h3, h4, h5, h6, h7, h8, h9, h10, h11⟩; go_simp
    · clear k6_b3_0 g6_b3_0 k6_b3_1 g6_b3_1 k6_b4_0 g6_b4_0 k6_b4_1 g6_b4_1 k6_b5_0 g6_b5_0 k6_b5_1 g6_b5_1 B6 z6; rintro w' ⟨h0, h1, h2, h3, h4, h5, h6, h7, h8, h9, h10, h11⟩; exact d2 _
    · clear k6_b3_0 g6_b3_0 k6_b3_1 g6_b3_1 k6_b4_0 g6_b4_0 k6_b4_1 g6_b4_1 k6_b5_0 g6_b5_0 k6_b5_1 g6_b5_1 B6 z6; rintro w' ⟨h0, h1, h2, h3, h4, h5, h6, h7, h8, h9, h10, h11⟩; go_simp; try exact IntWalk.i64_in _ (by omega)
    · clear k6_b3_0 g6_b3_0 k6_b3_1 g6_b3_1 k6_b4_0 g6_b4_0 k6_b4_1 g6_b4_1 k6_b5_0 g6_b5_0 k6_b5_1 g6_b5_1 B6 z6; rintro w' ⟨h0, h1, h2, h3, h4, h5, h6, h7, h8, h9, h10, h11⟩; go_simp; try exact IntWalk.i64_in _ (by omega)
    · clear k6_b3_0 g6_b3_0 k6_b3_1 g6_b3_1 k6_b4_0 g6_b4_0 k6_b4_1 g6_b4_1 k6_b5_0 g6_b5_0 k6_b5_1 g6_b5_1 B6 z6; rintro w' ⟨h0, h1, h2, h3, h4, h5, h6, h7, h8, h9, h10, h11⟩; go_simp; try exact IntWalk.i64_in _ (by omega)
    · clear k6_b3_0 g6_b3_0 k6_b3_1 g6_b3_1 k6_b4_0 g6_b4_0 k6_b4_1 g6_b4_1 k6_b5_0 g6_b5_0 k6_b5_1 g6_b5_1 B6 z6; rintro w' ⟨h0, h1, h2, h3, h4, h5, h6, h7, h8, h9, h10, h11⟩; go_simp; try exact IntWalk.i64_in _ (by omega)
    · clear k6_b3_0 g6_b3_0 k6_b3_1 g6_b3_1 k6_b4_0 g6_b4_0 k6_b4_1 g6_b4_1 k6_b5_0 g6_b5_0 k6_b5_1 g6_b5_1 B6 z6; rintro w' ⟨h0, h1, h2, h3, h4, h5, h6, h7, h8, h9, h10, h11⟩; go_simp; try exact IntWalk.i64_in _ (by omega)
    · clear k6_b3_0 g6_b3_0 k6_b3_1 g6_b3_1 k6_b4_0 g6_b4_0 k6_b4_1 g6_b4_1 k6_b5_0 g6_b5_0 k6_b5_1 g6_b5_1 B6 z6; rintro w' ⟨h0, h1, h2, h3, h4, h5, h6, h7, h8, h9, h10, h11⟩; go_simp; try exact IntWalk.i64_in _ (by omega)
    · clear k6_b3_0 g6_b3_0 k6_b3_1 g6_b3_1 k6_b4_0 g6_b4_0 k6_b4_1 g6_b4_1 k6_b5_0 g6_b5_0 k6_b5_1 g6_b5_1 B6 z6; rintro w' ⟨h0, h1, h2, h3, h4, h5, h6, h7, h8, h9, h10, h11⟩; go_simp
    · clear k6_b3_0 g6_b3_0 k6_b3_1 g6_b3_1 k6_b4_0 g6_b4_0 k6_b4_1 g6_b4_1 k6_b5_0 g6_b5_0 k6_b5_1 g6_b5_1 B6 z6; rintro w' ⟨h0, h1, h2, h3, h4, h5, h6, h7, h8, h9, h10, h11⟩; exact d3 _
    · clear k6_b3_0 g6_b3_0 k6_b3_1 g6_b3_1 k6_b4_0 g6_b4_0 k6_b4_1 g6_b4_1 k6_b5_0 g6_b5_0 k6_b5_1 g6_b5_1 B6 z6; rintro w' ⟨h0, h1, h2, h3, h4, h5, h6, h7, h8, h9, h10, h11⟩; go_simp; try exact IntWalk.i64_in _ (by omega)
    · clear k6_b3_0 g6_b3_0 k6_b3_1 g6_b3_1 k6_b4_0 g6_b4_0 k6_b4_1 g6_b4_1 k6_b5_0 g6_b5_0 k6_b5_1 g6_b5_1 B6 z6; rintro w' ⟨h0, h1, h2, h3, h4, h5, h6, h7, h8, h9, h10, h11⟩; go_simp; try exact IntWalk.i64_in _ (by omega)
    · clear k6_b3_0 g6_b3_0 k6_b3_1 g6_b3_1 k6_b4_0 g6_b4_0 k6_b4_1 g6_b4_1 k6_b5_0 g6_b5_0 k6_b5_1 g6_b5_1 B6 z6; rintro w' ⟨h0, h1, h2, h3, h4, h5, h6, h7, h8, h9, h10, h11⟩; go_simp; try exact IntWalk.i64_in _ (by omega)
    · clear k6_b3_0 g6_b3_0 k6_b3_1 g6_b3_1 k6_b4_0 g6_b4_0 k6_b4_1 g6_b4_1 k6_b5_0 g6_b5_0 k6_b5_1 g6_b5_1 B6 z6; rintro w' ⟨h0, h1, h2, h3, h4, h5, h6, h7, h8, h9, h10, h11⟩; go_simp
    · clear k6_b3_0 g6_b3_0 k6_b3_1 g6_b3_1 k6_b4_0 g6_b4_0 k6_b4_1 g6_b4_1 k6_b5_0 g6_b5_0 k6_b5_1 g6_b5_1 B6 z6; rintro w' ⟨h0, h1, h2, h3, h4, h5, h6, h7, h8, h9, h10, h11⟩; exact d4 _
    · clear k6_b3_0 g6_b3_0 k6_b3_1 g6_b3_1 k6_b4_0 g6_b4_0 k6_b4_1 g6_b4_1 k6_b5_0 g6_b5_0 k6_b5_1 g6_b5_1 B6 z6; rintro w' ⟨h0, h1, h2, h3, h4, h5, h6, h7, h8, h9, h10, h11⟩; go_simp; try exact IntWalk.i64_in _ (by omega)
    · clear k6_b3_0 g6_b3_0 k6_b3_1 g6_b3_1 k6_b4_0 g6_b4_0 k6_b4_1 g6_b4_1 k6_b5_0 g6_b5_0 k6_b5_1 g6_b5_1 B6 z6; rintro w' ⟨h0, h1, h2, h3, h4, h5, h6, h7, h8, h9, h10, h11⟩; go_simp; try exact IntWalk.i64_in _ (by omega)
    · clear k6_b3_0 g6_b3_0 k6_b3_1 g6_b3_1 k6_b4_0 g6_b4_0 k6_b4_1 g6_b4_1 k6_b5_0 g6_b5_0 k6_b5_1 g6_b5_1 B6 z6; rintro w' ⟨h0, h1, h2, h3, h4, h5, h6, h7, h8, h9, h10, h11⟩; go_simp; try exact IntWalk.i64_in _ (by omega)
    · clear k6_b3_0 g6_b3_0 k6_b3_1 g6_b3_1 k6_b4_0 g6_b4_0 k6_b4_1 g6_b4_1 k6_b5_0 g6_b5_0 k6_b5_1 g6_b5_1 B6 z6; rintro w' ⟨h0, h1, h2, h3, h4, h5, h6, h7, h8, h9, h10, h11⟩; go_simp; try exact IntWalk.i64_in _ (by omega)
    · clear k6_b3_0 g6_b3_0 k6_b3_1 g6_b3_1 k6_b4_0 g6_b4_0 k6_b4_1 g6_b4_1 k6_b5_0 g6_b5_0 k6_b5_1 g6_b5_1 B6 z6; rintro w' ⟨h0, h1, h2, h3, h4, h5, h6, h7, h8, h9, h10, h11⟩; go_simp; try exact IntWalk.i64_in _ (by omega)
    · clear k6_b3_0 g6_b3_0 k6_b3_1 g6_b3_1 k6_b4_0 g6_b4_0 k6_b4_1 g6_b4_1 k6_b5_0 g6_b5_0 k6_b5_1 g6_b5_1 B6 z6; rintro w' ⟨h0, h1, h2, h3, h4, h5, h6, h7, h8, h9, h10, h11⟩; go_simp; try exact IntWalk.i64_in _ (by omega)
    · clear k6_b3_0 g6_b3_0 k6_b3_1 g6_b3_1 k6_b4_0 g6_b4_0 k6_b4_1 g6_b4_1 k6_b5_0 g6_b5_0 k6_b5_1 g6_b5_1 B6 z6; rintro w' ⟨h0, h1, h2, h3, h4, h5, h6, h7, h8, h9, h10, h11⟩; go_simp
    · clear k6_b3_0 g6_b3_0 k6_b3_1 g6_b3_1 k6_b4_0 g6_b4_0 k6_b4_1 g6_b4_1 k6_b5_0 g6_b5_0 k6_b5_1 g6_b5_1 B6 z6; rintro w' ⟨h0, h1, h2, h3, h4, h5, h6, h7, h8, h9, h10, h11⟩; exact d3 _
    · clear k6_b3_0 g6_b3_0 k6_b3_1 g6_b3_1 k6_b4_0 g6_b4_0 k6_b4_1 g6_b4_1 k6_b5_0 g6_b5_0 k6_b5_1 g6_b5_1 B6 z6; rintro w' ⟨h0, h1, h2, h3, h4, h5, h6, h7, h8, h9, h10, h11⟩; go_simp; try exact IntWalk.i64_in _ (by omega)
    · clear k6_b3_0 g6_b3_0 k6_b3_1 g6_b3_1 k6_b4_0 g6_b4_0 k6_b4_1 g6_b4_1 k6_b5_0 g6_b5_0 k6_b5_1 g6_b5_1 B6 z6; rintro w' ⟨h0, h1, h2, h3, h4, h5, h6, h7, h8, h9, h10, h11⟩; go_simp; try exact IntWalk.i64_in _ (by omega)
    · clear k6_b3_0 g6_b3_0 k6_b3_1 g6_b3_1 k6_b4_0 g6_b4_0 k6_b4_1 g6_b4_1 k6_b5_0 g6_b5_0 k6_b5_1 g6_b5_1 B6 z6; rintro w' ⟨h0, h1, h2, h3, h4, h5, h6, h7, h8, h9, h10, h11⟩; go_simp; try exact IntWalk.i64_in _ (by omega)
    rintro w7 ⟨h0, h1, h2, h3, h4, h5, h6, h7, h8, h9, h10, h11⟩ hb7 hF
    clear hF
    have k7_b3_0 := bcs hb7 k6_b3_0
    have g7_b3_0 := bfs hb7 k6_b3_0 g6_b3_0
    have k7_b3_1 := bcs hb7 k6_b3_1
    have g7_b3_1 := bfs hb7 k6_b3_1 g6_b3_1
    have k7_b4_0 := bcs hb7 k6_b4_0
    have g7_b4_0 := bfs hb7 k6_b4_0 g6_b4_0
    have k7_b4_1 := bcs hb7 k6_b4_1
    have g7_b4_1 := bfs hb7 k6_b4_1 g6_b4_1
    have k7_b5_0 := bcs hb7 k6_b5_0
    have g7_b5_0 := bfs hb7 k6_b5_0 g6_b5_0
    have k7_b5_1 := bcs hb7 k6_b5_1
    have g7_b5_1 := bfs hb7 k6_b5_1 g6_b5_1
    clear h0 h1 h2 h3 h4 h5 h6 h7 h8 h9 h10 h11
    have B7 := bel_step B6 hb7
    have z7 := Nat.le_trans z6 hb7.size
    clear hb7
    (try clear B6)
    (try clear z6)
    (try clear k6_b3_0)
    (try clear g6_b3_0)
    (try clear k6_b3_1)
    (try clear g6_b3_1)
    (try clear k6_b4_0)
    (try clear g6_b4_0)
    (try clear k6_b4_1)
    (try clear g6_b4_1)
    (try clear k6_b5_0)
    (try clear g6_b5_0)
    (try clear k6_b5_1)
    (try clear g6_b5_1)
    (try clear q6_b3)
    (try clear x6_b3)
    (try clear y6_b3)
    (try clear q6_b4)
    (try clear x6_b4)
    (try clear y6_b4)
    (try clear q6_b5)
    (try clear x6_b5)
    (try clear y6_b5)
    have q7_b3 : w.heap.size < w7.heap.size := qlt k7_b3_0
    have x7_b3 : ¬ w.heap.size = w7.heap.size := qne k7_b3_0
    have y7_b3 : ¬ w7.heap.size = w.heap.size := fun h => qne k7_b3_0 h.symm
    have q7_b4 : w.heap.size + 1 < w7.heap.size := qlt k7_b4_0
    have x7_b4 : ¬ w.heap.size + 1 = w7.heap.size := qne k7_b4_0
    have y7_b4 : ¬ w7.heap.size = w.heap.size + 1 := fun h => qne k7_b4_0 h.symm
    have q7_b5 : w.heap.size + 1 + 1 < w7.heap.size := qlt k7_b5_0
    have x7_b5 : ¬ w.heap.size + 1 + 1 = w7.heap.size := qne k7_b5_0
    have y7_b5 : ¬ w7.heap.size = w.heap.size + 1 + 1 := fun h => qne k7_b5_0 h.symm
    go_wp2
    refine wp_region_ord (fun w' => w'.cell? ⟨w.heap.size, 0, none⟩ = some (.int .i64 x) ∧ w'.frozen? ⟨w.heap.size, 0, none⟩ = false ∧ w'.cell? ⟨w.heap.size, 1, none⟩ = some (.int .i64 y) ∧ w'.frozen? ⟨w.heap.size, 1, none⟩ = false ∧ w'.cell? ⟨w.heap.size + 1, 0, none⟩ = some (.int .i64 u) ∧ w'.frozen? ⟨w.heap.size + 1, 0, none⟩ = false ∧ w'.cell? ⟨w.heap.size + 1, 1, none⟩ = some (.int .i64 v) ∧ w'.frozen? ⟨w.heap.size + 1, 1, none⟩ = false ∧ w'.cell? ⟨w.heap.size + 1 + 1, 0, none⟩ = some (.int .i64 s) ∧ w'.frozen? ⟨w.heap.size + 1 + 1, 0, none⟩ = false ∧ w'.cell? ⟨w.heap.size + 1 + 1, 1, none⟩ = some (.int .i64 t) ∧ w'.frozen? ⟨w.heap.size + 1 + 1, 1, none⟩ = false) (fun W => W.cell? ⟨w.heap.size, 0, none⟩ = some (.int .i64 x) ∧ W.frozen? ⟨w.heap.size, 0, none⟩ = false ∧ W.cell? ⟨w.heap.size, 1, none⟩ = some (.int .i64 y) ∧ W.frozen? ⟨w.heap.size, 1, none⟩ = false ∧ W.cell? ⟨w.heap.size + 1, 0, none⟩ = some (.int .i64 u) ∧ W.frozen? ⟨w.heap.size + 1, 0, none⟩ = false ∧ W.cell? ⟨w.heap.size + 1, 1, none⟩ = some (.int .i64 v) ∧ W.frozen? ⟨w.heap.size + 1, 1, none⟩ = false ∧ W.cell? ⟨w.heap.size + 1 + 1, 0, none⟩ = some (.int .i64 s) ∧ W.frozen? ⟨w.heap.size + 1 + 1, 0, none⟩ = false ∧ W.cell? ⟨w.heap.size + 1 + 1, 1, none⟩ = some (.int .i64 t) ∧ W.frozen? ⟨w.heap.size + 1 + 1, 1, none⟩ = false ∧ Below w.heap.size w W ∧ w.heap.size + 1 + 1 + 1 ≤ W.heap.size) 9 [.val (.agg #[.int .i64 x, .int .i64 y]), .call 32 #[.agg #[.int .i64 x, .int .i64 y]] (.agg #[.int .i64 X, .int .i64 Y]), .val (.agg #[.int .i64 u, .int .i64 v]), .call 32 #[.agg #[.int .i64 u, .int .i64 v]] (.agg #[.int .i64 U, .int .i64 Z]), .val (.agg #[.int .i64 s, .int .i64 t]), .call 32 #[.agg #[.int .i64 s, .int .i64 t]] (.agg #[.int .i64 S, .int .i64 T]), .fresh (.cells #[.int .i64 0, .int .i64 0] 23), .fresh (.cells #[.int .i64 0, .int .i64 0] 23), .fresh (.cells #[.int .i64 0, .int .i64 0] 23)] (by kernel_rfl) (by kernel_rfl) (by rintro w1 w2 ⟨h0, h1, h2, h3, h4, h5, h6, h7, h8, h9, h10, h11⟩ hb; exact ⟨bcs hb h0, bfs hb h0 h1, bcs hb h2, bfs hb h2 h3, bcs hb h4, bfs hb h4 h5, bcs hb h6, bfs hb h6 h7, bcs hb h8, bfs hb h8 h9, bcs hb h10, bfs hb h10 h11⟩) ⟨by first | with_reducible assumption | go_simp, by first | with_reducible assumption | go_simp, by first | with_reducible assumption | go_simp, by first | with_reducible assumption | go_simp, by first | with_reducible assumption | go_simp, by first | with_reducible assumption | go_simp, by first | with_reducible assumption | go_simp, by first | with_reducible assumption | go_simp, by first | with_reducible assumption | go_simp, by first | with_reducible assumption | go_simp, by first | with_reducible assumption | go_simp, by first | with_reducible assumption | go_simp, by repeat (first | with_reducible exact Below.refl _ _ | with_reducible exact B7 | with_reducible apply below_drewN | with_reducible apply Below.drew | (with_reducible refine Below.alloc ?_ (by first | (simp; done) | (simp; omega) | omega) _) | (with_reducible refine Below.setCell ?_ (by first | (simp; done) | (simp; omega) | omega) _)), by first | with_reducible assumption | (simp; done) | (simp; omega)⟩ ?_ ?_
    · rintro W ⟨k8_b3_0, g8_b3_0, k8_b3_1, g8_b3_1, k8_b4_0, g8_b4_0, k8_b4_1, g8_b4_1, k8_b5_0, g8_b5_0, k8_b5_1, g8_b5_1, B8, z8⟩; exact ⟨k8_b3_0, g8_b3_0, k8_b3_1, g8_b3_1, k8_b4_0, g8_b4_0, k8_b4_1, g8_b4_1, k8_b5_0, g8_b5_0, k8_b5_1, g8_b5_1⟩
    (try clear B7)
    (try clear z7)
    (try clear k7_b3_0)
    (try clear g7_b3_0)
    (try clear k7_b3_1)
    (try clear g7_b3_1)
    (try clear k7_b4_0)
    (try clear g7_b4_0)
    (try clear k7_b4_1)
    (try clear g7_b4_1)
    (try clear k7_b5_0)
    (try clear g7_b5_0)
    (try clear k7_b5_1)
    (try clear g7_b5_1)
    (try clear q7_b3)
    (try clear x7_b3)
    (try clear y7_b3)
    (try clear q7_b4)
    (try clear x7_b4)
    (try clear y7_b4)
    (try clear q7_b5)
    (try clear x7_b5)
    (try clear y7_b5)
    rintro w8 ⟨k8_b3_0, g8_b3_0, k8_b3_1, g8_b3_1, k8_b4_0, g8_b4_0, k8_b4_1, g8_b4_1, k8_b5_0, g8_b5_0, k8_b5_1, g8_b5_1, B8, z8⟩ gg
    simp only [List.take_succ_cons, List.take_zero, List.drop_succ_cons, List.drop_zero, Obs, ob, Sp.get, Sp.news, Act.put, List.setIfInBounds_toArray, List.set_cons_zero, List.set_cons_succ, List.nil_append, List.cons_append, List.append_nil]
    refine ⟨⟨rfl, ?_⟩, ⟨rfl, ?_, ?_⟩, ⟨rfl, ?_⟩, ⟨rfl, ?_, ?_⟩, ⟨rfl, ?_⟩, ⟨rfl, ?_, ?_⟩, ⟨rfl, ?_⟩, ⟨rfl, ?_⟩, ⟨rfl, ?_⟩, ?_⟩
    · clear k8_b3_0 g8_b3_0 k8_b3_1 g8_b3_1 k8_b4_0 g8_b4_0 k8_b4_1 g8_b4_1 k8_b5_0 g8_b5_0 k8_b5_1 g8_b5_1 B8 z8; rintro w' ⟨h0, h1, h2, h3, h4, h5, h6, h7, h8, h9, h10, h11⟩; go_simp; try exact IntWalk.i64_in _ (by omega)
    · clear k8_b3_0 g8_b3_0 k8_b3_1 g8_b3_1 k8_b4_0 g8_b4_0 k8_b4_1 g8_b4_1 k8_b5_0 g8_b5_0 k8_b5_1 g8_b5_1 B8 z8; rintro w' ⟨h0, h1, h2, h3, h4, h5, h6, h7, h8, h9, h10, h11⟩; go_simp
    · clear k8_b3_0 g8_b3_0 k8_b3_1 g8_b3_1 k8_b4_0 g8_b4_0 k8_b4_1 g8_b4_1 k8_b5_0 g8_b5_0 k8_b5_1 g8_b5_1 B8 z8; rintro w' ⟨h0, h1, h2, h3, h4, h5, h6, h7, h8, h9, h10, h11⟩; exact e1 _
    · clear k8_b3_0 g8_b3_0 k8_b3_1 g8_b3_1 k8_b4_0 g8_b4_0 k8_b4_1 g8_b4_1 k8_b5_0 g8_b5_0 k8_b5_1 g8_b5_1 B8 z8; rintro w' ⟨h0, h1, h2, h3, h4, h5, h6, h7, h8, h9, h10, h11⟩; go_simp; try exact IntWalk.i64_in _ (by omega)
    · clear k8_b3_0 g8_b3_0 k8_b3_1 g8_b3_1 k8_b4_0 g8_b4_0 k8_b4_1 g8_b4_1 k8_b5_0 g8_b5_0 k8_b5_1 g8_b5_1 B8 z8; rintro w' ⟨h0, h1, h2, h3, h4, h5, h6, h7, h8, h9, h10, h11⟩; go_simp
    · clear k8_b3_0 g8_b3_0 k8_b3_1 g8_b3_1 k8_b4_0 g8_b4_0 k8_b4_1 g8_b4_1 k8_b5_0 g8_b5_0 k8_b5_1 g8_b5_1 B8 z8; rintro w' ⟨h0, h1, h2, h3, h4, h5, h6, h7, h8, h9, h10, h11⟩; exact e2 _
    · clear k8_b3_0 g8_b3_0 k8_b3_1 g8_b3_1 k8_b4_0 g8_b4_0 k8_b4_1 g8_b4_1 k8_b5_0 g8_b5_0 k8_b5_1 g8_b5_1 B8 z8; rintro w' ⟨h0, h1, h2, h3, h4, h5, h6, h7, h8, h9, h10, h11⟩; go_simp; try exact IntWalk.i64_in _ (by omega)
    · clear k8_b3_0 g8_b3_0 k8_b3_1 g8_b3_1 k8_b4_0 g8_b4_0 k8_b4_1 g8_b4_1 k8_b5_0 g8_b5_0 k8_b5_1 g8_b5_1 B8 z8; rintro w' ⟨h0, h1, h2, h3, h4, h5, h6, h7, h8, h9, h10, h11⟩; go_simp
    · clear k8_b3_0 g8_b3_0 k8_b3_1 g8_b3_1 k8_b4_0 g8_b4_0 k8_b4_1 g8_b4_1 k8_b5_0 g8_b5_0 k8_b5_1 g8_b5_1 B8 z8; rintro w' ⟨h0, h1, h2, h3, h4, h5, h6, h7, h8, h9, h10, h11⟩; exact e3 _
    · clear k8_b3_0 g8_b3_0 k8_b3_1 g8_b3_1 k8_b4_0 g8_b4_0 k8_b4_1 g8_b4_1 k8_b5_0 g8_b5_0 k8_b5_1 g8_b5_1 B8 z8; rintro w' ⟨h0, h1, h2, h3, h4, h5, h6, h7, h8, h9, h10, h11⟩; go_simp
    · clear k8_b3_0 g8_b3_0 k8_b3_1 g8_b3_1 k8_b4_0 g8_b4_0 k8_b4_1 g8_b4_1 k8_b5_0 g8_b5_0 k8_b5_1 g8_b5_1 B8 z8; rintro w' ⟨h0, h1, h2, h3, h4, h5, h6, h7, h8, h9, h10, h11⟩; go_simp
    · clear k8_b3_0 g8_b3_0 k8_b3_1 g8_b3_1 k8_b4_0 g8_b4_0 k8_b4_1 g8_b4_1 k8_b5_0 g8_b5_0 k8_b5_1 g8_b5_1 B8 z8; rintro w' ⟨h0, h1, h2, h3, h4, h5, h6, h7, h8, h9, h10, h11⟩; go_simp
    rintro w9 ⟨h0, h1, h2, h3, h4, h5, h6, h7, h8, h9, h10, h11⟩ hb9 hF
    have lg8 : w8.heap.size ≤ gg 6 := hF.1.1
    have ug8 : gg 6 < w9.heap.size := hF.1.2.1
    have pg8 : w9.heap[gg 6]? = some (.cells #[.int .i64 0, .int .i64 0] 23) := hF.1.2.2
    have ng8_g9 : ¬ gg 6 = gg 7 := hF.2.1 (7, .cells #[.int .i64 0, .int .i64 0] 23) (by simp)
    have ng8_g10 : ¬ gg 6 = gg 8 := hF.2.1 (8, .cells #[.int .i64 0, .int .i64 0] 23) (by simp)
    have lg9 : w8.heap.size ≤ gg 7 := hF.2.2.1.1
    have ug9 : gg 7 < w9.heap.size := hF.2.2.1.2.1
    have pg9 : w9.heap[gg 7]? = some (.cells #[.int .i64 0, .int .i64 0] 23) := hF.2.2.1.2.2
    have ng9_g10 : ¬ gg 7 = gg 8 := hF.2.2.2.1 (8, .cells #[.int .i64 0, .int .i64 0] 23) (by simp)
    have lg10 : w8.heap.size ≤ gg 8 := hF.2.2.2.2.1.1
    have ug10 : gg 8 < w9.heap.size := hF.2.2.2.2.1.2.1
    have pg10 : w9.heap[gg 8]? = some (.cells #[.int .i64 0, .int .i64 0] 23) := hF.2.2.2.2.1.2.2
    clear hF
    obtain ⟨g8, eg8⟩ : ∃ x, gg 6 = x := ⟨_, rfl⟩
    rw [eg8] at lg8 ug8 pg8 ng8_g9 ng8_g10 ⊢
    clear eg8
    obtain ⟨g9, eg9⟩ : ∃ x, gg 7 = x := ⟨_, rfl⟩
    rw [eg9] at lg9 ug9 pg9 ng8_g9 ng9_g10 ⊢
    clear eg9
    obtain ⟨g10, eg10⟩ : ∃ x, gg 8 = x := ⟨_, rfl⟩
    rw [eg10] at lg10 ug10 pg10 ng8_g10 ng9_g10 ⊢
    clear eg10
    clear gg
    have k9_b3_0 := bcs hb9 k8_b3_0
    have g9_b3_0 := bfs hb9 k8_b3_0 g8_b3_0
    have k9_b3_1 := bcs hb9 k8_b3_1
    have g9_b3_1 := bfs hb9 k8_b3_1 g8_b3_1
    have k9_b4_0 := bcs hb9 k8_b4_0
    have g9_b4_0 := bfs hb9 k8_b4_0 g8_b4_0
    have k9_b4_1 := bcs hb9 k8_b4_1
    have g9_b4_1 := bfs hb9 k8_b4_1 g8_b4_1
    have k9_b5_0 := bcs hb9 k8_b5_0
    have g9_b5_0 := bfs hb9 k8_b5_0 g8_b5_0
    have k9_b5_1 := bcs hb9 k8_b5_1
    have g9_b5_1 := bfs hb9 k8_b5_1 g8_b5_1
    clear h0 h1 h2 h3 h4 h5 h6 h7 h8 h9 h10 h11
    have B9 := bel_step B8 hb9
    have z9 := Nat.le_trans z8 hb9.size
    have mg8 : w.heap.size ≤ g8 := by omega
    have ng8_b3 : ¬ g8 = w.heap.size := by omega
    have nb3_g8 : ¬ w.heap.size = g8 := by omega
    have ng8_b4 : ¬ g8 = w.heap.size + 1 := by omega
    have nb4_g8 : ¬ w.heap.size + 1 = g8 := by omega
    have ng8_b5 : ¬ g8 = w.heap.size + 1 + 1 := by omega
    have nb5_g8 : ¬ w.heap.size + 1 + 1 = g8 := by omega
    have k9_g8_0 : w9.cell? ⟨g8, 0, none⟩ = some (.int .i64 0) := cob pg8 0 rfl
    have g9_g8_0 : w9.frozen? ⟨g8, 0, none⟩ = false := fob pg8 0
    have k9_g8_1 : w9.cell? ⟨g8, 1, none⟩ = some (.int .i64 0) := cob pg8 1 rfl
    have g9_g8_1 : w9.frozen? ⟨g8, 1, none⟩ = false := fob pg8 1
    have mg9 : w.heap.size ≤ g9 := by omega
    have ng9_b3 : ¬ g9 = w.heap.size := by omega
    have nb3_g9 : ¬ w.heap.size = g9 := by omega
    have ng9_b4 : ¬ g9 = w.heap.size + 1 := by omega
    have nb4_g9 : ¬ w.heap.size + 1 = g9 := by omega
    have ng9_b5 : ¬ g9 = w.heap.size + 1 + 1 := by omega
    have nb5_g9 : ¬ w.heap.size + 1 + 1 = g9 := by omega
    have k9_g9_0 : w9.cell? ⟨g9, 0, none⟩ = some (.int .i64 0) := cob pg9 0 rfl
    have g9_g9_0 : w9.frozen? ⟨g9, 0, none⟩ = false := fob pg9 0
    have k9_g9_1 : w9.cell? ⟨g9, 1, none⟩ = some (.int .i64 0) := cob pg9 1 rfl
    have g9_g9_1 : w9.frozen? ⟨g9, 1, none⟩ = false := fob pg9 1
    have mg10 : w.heap.size ≤ g10 := by omega
    have ng10_b3 : ¬ g10 = w.heap.size := by omega
    have nb3_g10 : ¬ w.heap.size = g10 := by omega
    have ng10_b4 : ¬ g10 = w.heap.size + 1 := by omega
    have nb4_g10 : ¬ w.heap.size + 1 = g10 := by omega
    have ng10_b5 : ¬ g10 = w.heap.size + 1 + 1 := by omega
    have nb5_g10 : ¬ w.heap.size + 1 + 1 = g10 := by omega
    have k9_g10_0 : w9.cell? ⟨g10, 0, none⟩ = some (.int .i64 0) := cob pg10 0 rfl
    have g9_g10_0 : w9.frozen? ⟨g10, 0, none⟩ = false := fob pg10 0
    have k9_g10_1 : w9.cell? ⟨g10, 1, none⟩ = some (.int .i64 0) := cob pg10 1 rfl
    have g9_g10_1 : w9.frozen? ⟨g10, 1, none⟩ = false := fob pg10 1
    have ng9_g8 : ¬ g9 = g8 := fun h => ng8_g9 h.symm
    have ng10_g8 : ¬ g10 = g8 := fun h => ng8_g10 h.symm
    have ng10_g9 : ¬ g10 = g9 := fun h => ng9_g10 h.symm
    clear lg8 ug8 pg8
    clear lg9 ug9 pg9
    clear lg10 ug10 pg10
    clear hb9
    (try clear B8)
    (try clear z8)
    (try clear k8_b3_0)
    (try clear g8_b3_0)
    (try clear k8_b3_1)
    (try clear g8_b3_1)
    (try clear k8_b4_0)
    (try clear g8_b4_0)
    (try clear k8_b4_1)
    (try clear g8_b4_1)
    (try clear k8_b5_0)
    (try clear g8_b5_0)
    (try clear k8_b5_1)
    (try clear g8_b5_1)
    (try clear q8_b3)
    (try clear x8_b3)
    (try clear y8_b3)
    (try clear q8_b4)
    (try clear x8_b4)
    (try clear y8_b4)
    (try clear q8_b5)
    (try clear x8_b5)
    (try clear y8_b5)
    have q9_b3 : w.heap.size < w9.heap.size := qlt k9_b3_0
    have x9_b3 : ¬ w.heap.size = w9.heap.size := qne k9_b3_0
    have y9_b3 : ¬ w9.heap.size = w.heap.size := fun h => qne k9_b3_0 h.symm
    have q9_b4 : w.heap.size + 1 < w9.heap.size := qlt k9_b4_0
    have x9_b4 : ¬ w.heap.size + 1 = w9.heap.size := qne k9_b4_0
    have y9_b4 : ¬ w9.heap.size = w.heap.size + 1 := fun h => qne k9_b4_0 h.symm
    have q9_b5 : w.heap.size + 1 + 1 < w9.heap.size := qlt k9_b5_0
    have x9_b5 : ¬ w.heap.size + 1 + 1 = w9.heap.size := qne k9_b5_0
    have y9_b5 : ¬ w9.heap.size = w.heap.size + 1 + 1 := fun h => qne k9_b5_0 h.symm
    have q9_g8 : g8 < w9.heap.size := qlt k9_g8_0
    have x9_g8 : ¬ g8 = w9.heap.size := qne k9_g8_0
    have y9_g8 : ¬ w9.heap.size = g8 := fun h => qne k9_g8_0 h.symm
    have q9_g9 : g9 < w9.heap.size := qlt k9_g9_0
    have x9_g9 : ¬ g9 = w9.heap.size := qne k9_g9_0
    have y9_g9 : ¬ w9.heap.size = g9 := fun h => qne k9_g9_0 h.symm
    have q9_g10 : g10 < w9.heap.size := qlt k9_g10_0
    have x9_g10 : ¬ g10 = w9.heap.size := qne k9_g10_0
    have y9_g10 : ¬ w9.heap.size = g10 := fun h => qne k9_g10_0 h.symm
    go_wp2
    refine wp_region_ord (fun w' => w'.cell? ⟨w.heap.size, 0, none⟩ = some (.int .i64 x) ∧ w'.frozen? ⟨w.heap.size, 0, none⟩ = false ∧ w'.cell? ⟨w.heap.size, 1, none⟩ = some (.int .i64 y) ∧ w'.frozen? ⟨w.heap.size, 1, none⟩ = false ∧ w'.cell? ⟨w.heap.size + 1, 0, none⟩ = some (.int .i64 u) ∧ w'.frozen? ⟨w.heap.size + 1, 0, none⟩ = false ∧ w'.cell? ⟨w.heap.size + 1, 1, none⟩ = some (.int .i64 v) ∧ w'.frozen? ⟨w.heap.size + 1, 1, none⟩ = false ∧ w'.cell? ⟨w.heap.size + 1 + 1, 0, none⟩ = some (.int .i64 s) ∧ w'.frozen? ⟨w.heap.size + 1 + 1, 0, none⟩ = false ∧ w'.cell? ⟨w.heap.size + 1 + 1, 1, none⟩ = some (.int .i64 t) ∧ w'.frozen? ⟨w.heap.size + 1 + 1, 1, none⟩ = false ∧ w'.cell? ⟨g8, 0, none⟩ = some (.int .i64 X) ∧ w'.frozen? ⟨g8, 0, none⟩ = false ∧ w'.cell? ⟨g8, 1, none⟩ = some (.int .i64 Y) ∧ w'.frozen? ⟨g8, 1, none⟩ = false ∧ w'.cell? ⟨g9, 0, none⟩ = some (.int .i64 U) ∧ w'.frozen? ⟨g9, 0, none⟩ = false ∧ w'.cell? ⟨g9, 1, none⟩ = some (.int .i64 Z) ∧ w'.frozen? ⟨g9, 1, none⟩ = false ∧ w'.cell? ⟨g10, 0, none⟩ = some (.int .i64 S) ∧ w'.frozen? ⟨g10, 0, none⟩ = false ∧ w'.cell? ⟨g10, 1, none⟩ = some (.int .i64 T) ∧ w'.frozen? ⟨g10, 1, none⟩ = false) (fun W => W.cell? ⟨w.heap.size, 0, none⟩ = some (.int .i64 x) ∧ W.frozen? ⟨w.heap.size, 0, none⟩ = false ∧ W.cell? ⟨w.heap.size, 1, none⟩ = some (.int .i64 y) ∧ W.frozen? ⟨w.heap.size, 1, none⟩ = false ∧ W.cell? ⟨w.heap.size + 1, 0, none⟩ = some (.int .i64 u) ∧ W.frozen? ⟨w.heap.size + 1, 0, none⟩ = false ∧ W.cell? ⟨w.heap.size + 1, 1, none⟩ = some (.int .i64 v) ∧ W.frozen? ⟨w.heap.size + 1, 1, none⟩ = false ∧ W.cell? ⟨w.heap.size + 1 + 1, 0, none⟩ = some (.int .i64 s) ∧ W.frozen? ⟨w.heap.size + 1 + 1, 0, none⟩ = false ∧ W.cell? ⟨w.heap.size + 1 + 1, 1, none⟩ = some (.int .i64 t) ∧ W.frozen? ⟨w.heap.size + 1 + 1, 1, none⟩ = false ∧ W.cell? ⟨g8, 0, none⟩ = some (.int .i64 X) ∧ W.frozen? ⟨g8, 0, none⟩ = false ∧ W.cell? ⟨g8, 1, none⟩ = some (.int .i64 Y) ∧ W.frozen? ⟨g8, 1, none⟩ = false ∧ W.cell? ⟨g9, 0, none⟩ = some (.int .i64 U) ∧ W.frozen? ⟨g9, 0, none⟩ = false ∧ W.cell? ⟨g9, 1, none⟩ = some (.int .i64 Z) ∧ W.frozen? ⟨g9, 1, none⟩ = false ∧ W.cell? ⟨g10, 0, none⟩ = some (.int .i64 S) ∧ W.frozen? ⟨g10, 0, none⟩ = false ∧ W.cell? ⟨g10, 1, none⟩ = some (.int .i64 T) ∧ W.frozen? ⟨g10, 1, none⟩ = false ∧ Below w.heap.size w W ∧ w.heap.size + 1 + 1 + 1 ≤ W.heap.size) 33 [.val (.agg #[.int .i64 X, .int .i64 Y]), .val (.agg #[.int .i64 S, .int .i64 T]), .call 11 #[.agg #[.int .i64 X, .int .i64 Y], .agg #[.int .i64 S, .int .i64 T]] (.agg #[.int .i64 (X + S), .int .i64 (Y + T)]), .val (.agg #[.int .i64 U, .int .i64 Z]), .val (.agg #[.int .i64 S, .int .i64 T]), .call 11 #[.agg #[.int .i64 U, .int .i64 Z], .agg #[.int .i64 S, .int .i64 T]] (.agg #[.int .i64 (U + S), .int .i64 (Z + T)]), .val (.agg #[.int .i64 S, .int .i64 T]), .val (.agg #[.int .i64 S, .int .i64 T]), .call 11 #[.agg #[.int .i64 S, .int .i64 T], .agg #[.int .i64 S, .int .i64 T]] (.agg #[.int .i64 (S + S), .int .i64 (T + T)]), .call 26 #[.agg #[.int .i64 (X + S), .int .i64 (Y + T)], .agg #[.int .i64 (U + S), .int .i64 (Z + T)], .agg #[.int .i64 (S + S), .int .i64 (T + T)]] (.int .i64 M), .val (.agg #[.int .i64 X, .int .i64 Y]), .val (.agg #[.int .i64 U, .int .i64 Z]), .val (.agg #[.int .i64 S, .int .i64 T]), .call 26 #[.agg #[.int .i64 X, .int .i64 Y], .agg #[.int .i64 U, .int .i64 Z], .agg #[.int .i64 S, .int .i64 T]] (.int .i64 M), .val (.bool true), .val (.bool true), .val (.agg #[.int .i64 X, .int .i64 Y]), .call 15 #[.agg #[.int .i64 X, .int .i64 Y]] (.agg #[.int .i64 (-Y), .int .i64 X]), .val (.agg #[.int .i64 U, .int .i64 Z]), .call 15 #[.agg #[.int .i64 U, .int .i64 Z]] (.agg #[.int .i64 (-Z), .int .i64 U]), .val (.agg #[.int .i64 S, .int .i64 T]), .call 15 #[.agg #[.int .i64 S, .int .i64 T]] (.agg #[.int .i64 (-T), .int .i64 S]), .call 26 #[.agg #[.int .i64 (-Y), .int .i64 X], .agg #[.int .i64 (-Z), .int .i64 U], .agg #[.int .i64 (-T), .int .i64 S]] (.int .i64 M), .val (.agg #[.int .i64 X, .int .i64 Y]), .val (.agg #[.int .i64 U, .int .i64 Z]), .val (.agg #[.int .i64 S, .int .i64 T]), .call 26 #[.agg #[.int .i64 X, .int .i64 Y], .agg #[.int .i64 U, .int .i64 Z], .agg #[.int .i64 S, .int .i64 T]] (.int .i64 M), .val (.bool true), .val (.bool true), .val (.bool true), .call 25 #[] (.bool true), .val (.bool true), .val (.bool true)] (by kernel_rfl) (by kernel_rfl) (by rintro w1 w2 ⟨h0, h1, h2, h3, h4, h5, h6, h7, h8, h9, h10, h11, h12, h13, h14, h15, h16, h17, h18, h19, h20, h21, h22, h23⟩ hb; exact ⟨bcs hb h0, bfs hb h0 h1, bcs hb h2, bfs hb h2 h3, bcs hb h4, bfs hb h4 h5, bcs hb h6, bfs hb h6 h7, bcs hb h8, bfs hb h8 h9, bcs hb h10, bfs hb h10 h11, bcs hb h12, bfs hb h12 h13, bcs hb h14, bfs hb h14 h15, bcs hb h16, bfs hb h16 h17, bcs hb h18, bfs hb h18 h19, bcs hb h20, bfs hb h20 h21, bcs hb h22, bfs hb h22 h23⟩) ⟨by first | with_reducible assumption | go_simp, by first | with_reducible assumption | go_simp, by first | with_reducible assumption | go_simp, by first | with_reducible assumption | go_simp, by first | with_reducible assumption | go_simp, by first | with_reducible assumption | go_simp, by first | with_reducible assumption | go_simp, by first | with_reducible assumption | go_simp, by first | with_reducible assumption | go_simp, by first | with_reducible assumption | go_simp, by first | with_reducible assumption | go_simp, by first | with_reducible assumption | go_simp, by first | with_reducible assumption | go_simp, by first | with_reducible assumption | go_simp, by first | with_reducible assumption | go_simp, by first | with_reducible assumption | go_simp, by first | with_reducible assumption | go_simp, by first | with_reducible assumption | go_simp, by first | with_reducible assumption | go_simp, by first | with_reducible assumption | go_simp, by first | with_reducible assumption | go_simp, by first | with_reducible assumption | go_simp, by first | with_reducible assumption | go_simp, by first | with_reducible assumption | go_simp, by repeat (first | with_reducible exact Below.refl _ _ | with_reducible exact B9 | with_reducible apply below_drewN | with_reducible apply Below.drew | (with_reducible refine Below.alloc ?_ (by first | (simp; done) | (simp; omega) | omega) _) | (with_reducible refine Below.setCell ?_ (by first | (simp; done) | (simp; omega) | omega) _)), by first | with_reducible assumption | (simp; done) | (simp; omega)⟩ ?_ ?_
    · rintro W ⟨k10_b3_0, g10_b3_0, k10_b3_1, g10_b3_1, k10_b4_0, g10_b4_0, k10_b4_1, g10_b4_1, k10_b5_0, g10_b5_0, k10_b5_1, g10_b5_1, k10_g8_0, g10_g8_0, k10_g8_1, g10_g8_1, k10_g9_0, g10_g9_0, k10_g9_1, g10_g9_1, k10_g10_0, g10_g10_0, k10_g10_1, g10_g10_1, B10, z10⟩; exact ⟨k10_b3_0, g10_b3_0, k10_b3_1, g10_b3_1, k10_b4_0, g10_b4_0, k10_b4_1, g10_b4_1, k10_b5_0, g10_b5_0, k10_b5_1, g10_b5_1, k10_g8_0, g10_g8_0, k10_g8_1, g10_g8_1, k10_g9_0, g10_g9_0, k10_g9_1, g10_g9_1, k10_g10_0, g10_g10_0, k10_g10_1, g10_g10_1⟩
    (try clear B9)
    (try clear z9)
    (try clear k9_b3_0)
    (try clear g9_b3_0)
    (try clear k9_b3_1)
    (try clear g9_b3_1)
    (try clear k9_b4_0)
    (try clear g9_b4_0)
    (try clear k9_b4_1)
    (try clear g9_b4_1)
    (try clear k9_b5_0)
    (try clear g9_b5_0)
    (try clear k9_b5_1)
    (try clear g9_b5_1)
    (try clear k9_g8_0)
    (try clear g9_g8_0)
    (try clear k9_g8_1)
    (try clear g9_g8_1)
    (try clear k9_g9_0)
    (try clear g9_g9_0)
    (try clear k9_g9_1)
    (try clear g9_g9_1)
    (try clear k9_g10_0)
    (try clear g9_g10_0)
    (try clear k9_g10_1)
    (try clear g9_g10_1)
    (try clear q9_b3)
    (try clear x9_b3)
    (try clear y9_b3)
    (try clear q9_b4)
    (try clear x9_b4)
    (try clear y9_b4)
    (try clear q9_b5)
    (try clear x9_b5)
    (try clear y9_b5)
    (try clear q9_g8)
    (try clear x9_g8)
    (try clear y9_g8)
    (try clear q9_g9)
    (try clear x9_g9)
    (try clear y9_g9)
    (try clear q9_g10)
    (try clear x9_g10)
    (try clear y9_g10)
    rintro w10 ⟨k10_b3_0, g10_b3_0, k10_b3_1, g10_b3_1, k10_b4_0, g10_b4_0, k10_b4_1, g10_b4_1, k10_b5_0, g10_b5_0, k10_b5_1, g10_b5_1, k10_g8_0, g10_g8_0, k10_g8_1, g10_g8_1, k10_g9_0, g10_g9_0, k10_g9_1, g10_g9_1, k10_g10_0, g10_g10_0, k10_g10_1, g10_g10_1, B10, z10⟩ gg
    simp only [List.take_succ_cons, List.take_zero, List.drop_succ_cons, List.drop_zero, Obs, ob, Sp.get, Sp.news, Act.put, List.setIfInBounds_toArray, List.set_cons_zero, List.set_cons_succ, List.nil_append, List.cons_append, List.append_nil]
    refine ⟨⟨rfl, ?_⟩, ⟨rfl, ?_⟩, ⟨rfl, ?_, ?_⟩, ⟨rfl, ?_⟩, ⟨rfl, ?_⟩, ⟨rfl, ?_, ?_⟩, ⟨rfl, ?_⟩, ⟨rfl, ?_⟩, ⟨rfl, ?_, ?_⟩, ⟨rfl, ?_, ?_⟩, ⟨rfl, ?_⟩, ⟨rfl, ?_⟩, ⟨rfl, ?_⟩, ⟨rfl, ?_, ?_⟩, ⟨rfl, ?_⟩, ⟨rfl, ?_⟩, ⟨rfl, ?_⟩, ⟨rfl, ?_, ?_⟩, ⟨rfl, ?_⟩, ⟨rfl, ?_, ?_⟩, ⟨rfl, ?_⟩, ⟨rfl, ?_, ?_⟩, ⟨rfl, ?_, ?_⟩, ⟨rfl, ?_⟩, ⟨rfl, ?_⟩, ⟨rfl, ?_⟩, ⟨rfl, ?_, ?_⟩, ⟨rfl, ?_⟩, ⟨rfl, ?_⟩, ⟨rfl, ?_⟩, ⟨rfl, ?_, ?_⟩, ⟨rfl, ?_⟩, ⟨rfl, ?_⟩, ?_⟩
    · clear k10_b3_0 g10_b3_0 k10_b3_1 g10_b3_1 k10_b4_0 g10_b4_0 k10_b4_1 g10_b4_1 k10_b5_0 g10_b5_0 k10_b5_1 g10_b5_1 k10_g8_0 g10_g8_0 k10_g8_1 g10_g8_1 k10_g9_0 g10_g9_0 k10_g9_1 g10_g9_1 k10_g10_0 g10_g10_0 k10_g10_1 g10_g10_1 B10 z10; rintro w' ⟨h0, h1, h2, h3, h4, h5, h6, h7, h8, h9, h10, h11, h12, h13, h14, h15, h16, h17, h18, h19, h20, h21, h22, h23⟩; go_simp; try exact IntWalk.i64_in _ (by omega)
    · clear k10_b3_0 g10_b3_0 k10_b3_1 g10_b3_1 k10_b4_0 g10_b4_0 k10_b4_1 g10_b4_1 k10_b5_0 g10_b5_0 k10_b5_1 g10_b5_1 k10_g8_0 g10_g8_0 k10_g8_1 g10_g8_1 k10_g9_0 g10_g9_0 k10_g9_1 g10_g9_1 k10_g10_0 g10_g10_0 k10_g10_1 g10_g10_1 B10 z10; rintro w' ⟨h0, h1, h2, h3, h4, h5, h6, h7, h8, h9, h10, h11, h12, h13, h14, h15, h16, h17, h18, h19, h20, h21, h22, h23⟩; go_simp; try exact IntWalk.i64_in _ (by omega)
    · clear k10_b3_0 g10_b3_0 k10_b3_1 g10_b3_1 k10_b4_0 g10_b4_0 k10_b4_1 g10_b4_1 k10_b5_0 g10_b5_0 k10_b5_1 g10_b5_1 k10_g8_0 g10_g8_0 k10_g8_1 g10_g8_1 k10_g9_0 g10_g9_0 k10_g9_1 g10_g9_1 k10_g10_0 g10_g10_0 k10_g10_1 g10_g10_1 B10 z10; rintro w' ⟨h0, h1, h2, h3, h4, h5, h6, h7, h8, h9, h10, h11, h12, h13, h14, h15, h16, h17, h18, h19, h20, h21, h22, h23⟩; go_simp
    · clear k10_b3_0 g10_b3_0 k10_b3_1 g10_b3_1 k10_b4_0 g10_b4_0 k10_b4_1 g10_b4_1 k10_b5_0 g10_b5_0 k10_b5_1 g10_b5_1 k10_g8_0 g10_g8_0 k10_g8_1 g10_g8_1 k10_g9_0 g10_g9_0 k10_g9_1 g10_g9_1 k10_g10_0 g10_g10_0 k10_g10_1 g10_g10_1 B10 z10; rintro w' ⟨h0, h1, h2, h3, h4, h5, h6, h7, h8, h9, h10, h11, h12, h13, h14, h15, h16, h17, h18, h19, h20, h21, h22, h23⟩; exact vadd_small X Y S T hX hY hS hT _
    · clear k10_b3_0 g10_b3_0 k10_b3_1 g10_b3_1 k10_b4_0 g10_b4_0 k10_b4_1 g10_b4_1 k10_b5_0 g10_b5_0 k10_b5_1 g10_b5_1 k10_g8_0 g10_g8_0 k10_g8_1 g10_g8_1 k10_g9_0 g10_g9_0 k10_g9_1 g10_g9_1 k10_g10_0 g10_g10_0 k10_g10_1 g10_g10_1 B10 z10; rintro w' ⟨h0, h1, h2, h3, h4, h5, h6, h7, h8, h9, h10, h11, h12, h13, h14, h15, h16, h17, h18, h19, h20, h21, h22, h23⟩; go_simp; try exact IntWalk.i64_in _ (by omega)
    · clear k10_b3_0 g10_b3_0 k10_b3_1 g10_b3_1 k10_b4_0 g10_b4_0 k10_b4_1 g10_b4_1 k10_b5_0 g10_b5_0 k10_b5_1 g10_b5_1 k10_g8_0 g10_g8_0 k10_g8_1 g10_g8_1 k10_g9_0 g10_g9_0 k10_g9_1 g10_g9_1 k10_g10_0 g10_g10_0 k10_g10_1 g10_g10_1 B10 z10; rintro w' ⟨h0, h1, h2, h3, h4, h5, h6, h7, h8, h9, h10, h11, h12, h13, h14, h15, h16, h17, h18, h19, h20, h21, h22, h23⟩; go_simp; try exact IntWalk.i64_in _ (by omega)
    · clear k10_b3_0 g10_b3_0 k10_b3_1 g10_b3_1 k10_b4_0 g10_b4_0 k10_b4_1 g10_b4_1 k10_b5_0 g10_b5_0 k10_b5_1 g10_b5_1 k10_g8_0 g10_g8_0 k10_g8_1 g10_g8_1 k10_g9_0 g10_g9_0 k10_g9_1 g10_g9_1 k10_g10_0 g10_g10_0 k10_g10_1 g10_g10_1 B10 z10; rintro w' ⟨h0, h1, h2, h3, h4, h5, h6, h7, h8, h9, h10, h11, h12, h13, h14, h15, h16, h17, h18, h19, h20, h21, h22, h23⟩; go_simp
    · clear k10_b3_0 g10_b3_0 k10_b3_1 g10_b3_1 k10_b4_0 g10_b4_0 k10_b4_1 g10_b4_1 k10_b5_0 g10_b5_0 k10_b5_1 g10_b5_1 k10_g8_0 g10_g8_0 k10_g8_1 g10_g8_1 k10_g9_0 g10_g9_0 k10_g9_1 g10_g9_1 k10_g10_0 g10_g10_0 k10_g10_1 g10_g10_1 B10 z10; rintro w' ⟨h0, h1, h2, h3, h4, h5, h6, h7, h8, h9, h10, h11, h12, h13, h14, h15, h16, h17, h18, h19, h20, h21, h22, h23⟩; exact vadd_small U Z S T hU hZ hS hT _
    · clear k10_b3_0 g10_b3_0 k10_b3_1 g10_b3_1 k10_b4_0 g10_b4_0 k10_b4_1 g10_b4_1 k10_b5_0 g10_b5_0 k10_b5_1 g10_b5_1 k10_g8_0 g10_g8_0 k10_g8_1 g10_g8_1 k10_g9_0 g10_g9_0 k10_g9_1 g10_g9_1 k10_g10_0 g10_g10_0 k10_g10_1 g10_g10_1 B10 z10; rintro w' ⟨h0, h1, h2, h3, h4, h5, h6, h7, h8, h9, h10, h11, h12, h13, h14, h15, h16, h17, h18, h19, h20, h21, h22, h23⟩; go_simp; try exact IntWalk.i64_in _ (by omega)
    · clear k10_b3_0 g10_b3_0 k10_b3_1 g10_b3_1 k10_b4_0 g10_b4_0 k10_b4_1 g10_b4_1 k10_b5_0 g10_b5_0 k10_b5_1 g10_b5_1 k10_g8_0 g10_g8_0 k10_g8_1 g10_g8_1 k10_g9_0 g10_g9_0 k10_g9_1 g10_g9_1 k10_g10_0 g10_g10_0 k10_g10_1 g10_g10_1 B10 z10; rintro w' ⟨h0, h1, h2, h3, h4, h5, h6, h7, h8, h9, h10, h11, h12, h13, h14, h15, h16, h17, h18, h19, h20, h21, h22, h23⟩; go_simp; try exact IntWalk.i64_in _ (by omega)
    · clear k10_b3_0 g10_b3_0 k10_b3_1 g10_b3_1 k10_b4_0 g10_b4_0 k10_b4_1 g10_b4_1 k10_b5_0 g10_b5_0 k10_b5_1 g10_b5_1 k10_g8_0 g10_g8_0 k10_g8_1 g10_g8_1 k10_g9_0 g10_g9_0 k10_g9_1 g10_g9_1 k10_g10_0 g10_g10_0 k10_g10_1 g10_g10_1 B10 z10; rintro w' ⟨h0, h1, h2, h3, h4, h5, h6, h7, h8, h9, h10, h11, h12, h13, h14, h15, h16, h17, h18, h19, h20, h21, h22, h23⟩; go_simp
    · clear k10_b3_0 g10_b3_0 k10_b3_1 g10_b3_1 k10_b4_0 g10_b4_0 k10_b4_1 g10_b4_1 k10_b5_0 g10_b5_0 k10_b5_1 g10_b5_1 k10_g8_0 g10_g8_0 k10_g8_1 g10_g8_1 k10_g9_0 g10_g9_0 k10_g9_1 g10_g9_1 k10_g10_0 g10_g10_0 k10_g10_1 g10_g10_1 B10 z10; rintro w' ⟨h0, h1, h2, h3, h4, h5, h6, h7, h8, h9, h10, h11, h12, h13, h14, h15, h16, h17, h18, h19, h20, h21, h22, h23⟩; exact vadd_small S T S T hS hT hS hT _
    · clear k10_b3_0 g10_b3_0 k10_b3_1 g10_b3_1 k10_b4_0 g10_b4_0 k10_b4_1 g10_b4_1 k10_b5_0 g10_b5_0 k10_b5_1 g10_b5_1 k10_g8_0 g10_g8_0 k10_g8_1 g10_g8_1 k10_g9_0 g10_g9_0 k10_g9_1 g10_g9_1 k10_g10_0 g10_g10_0 k10_g10_1 g10_g10_1 B10 z10; rintro w' ⟨h0, h1, h2, h3, h4, h5, h6, h7, h8, h9, h10, h11, h12, h13, h14, h15, h16, h17, h18, h19, h20, h21, h22, h23⟩; go_simp
    · clear k10_b3_0 g10_b3_0 k10_b3_1 g10_b3_1 k10_b4_0 g10_b4_0 k10_b4_1 g10_b4_1 k10_b5_0 g10_b5_0 k10_b5_1 g10_b5_1 k10_g8_0 g10_g8_0 k10_g8_1 g10_g8_1 k10_g9_0 g10_g9_0 k10_g9_1 g10_g9_1 k10_g10_0 g10_g10_0 k10_g10_1 g10_g10_1 B10 z10; rintro w' ⟨h0, h1, h2, h3, h4, h5, h6, h7, h8, h9, h10, h11, h12, h13, h14, h15, h16, h17, h18, h19, h20, h21, h22, h23⟩; exact m2 _
    · clear k10_b3_0 g10_b3_0 k10_b3_1 g10_b3_1 k10_b4_0 g10_b4_0 k10_b4_1 g10_b4_1 k10_b5_0 g10_b5_0 k10_b5_1 g10_b5_1 k10_g8_0 g10_g8_0 k10_g8_1 g10_g8_1 k10_g9_0 g10_g9_0 k10_g9_1 g10_g9_1 k10_g10_0 g10_g10_0 k10_g10_1 g10_g10_1 B10 z10; rintro w' ⟨h0, h1, h2, h3, h4, h5, h6, h7, h8, h9, h10, h11, h12, h13, h14, h15, h16, h17, h18, h19, h20, h21, h22, h23⟩; go_simp; try exact IntWalk.i64_in _ (by omega)
    · clear k10_b3_0 g10_b3_0 k10_b3_1 g10_b3_1 k10_b4_0 g10_b4_0 k10_b4_1 g10_b4_1 k10_b5_0 g10_b5_0 k10_b5_1 g10_b5_1 k10_g8_0 g10_g8_0 k10_g8_1 g10_g8_1 k10_g9_0 g10_g9_0 k10_g9_1 g10_g9_1 k10_g10_0 g10_g10_0 k10_g10_1 g10_g10_1 B10 z10; rintro w' ⟨h0, h1, h2, h3, h4, h5, h6, h7, h8, h9, h10, h11, h12, h13, h14, h15, h16, h17, h18, h19, h20, h21, h22, h23⟩; go_simp; try exact IntWalk.i64_in _ (by omega)
    · clear k10_b3_0 g10_b3_0 k10_b3_1 g10_b3_1 k10_b4_0 g10_b4_0 k10_b4_1 g10_b4_1 k10_b5_0 g10_b5_0 k10_b5_1 g10_b5_1 k10_g8_0 g10_g8_0 k10_g8_1 g10_g8_1 k10_g9_0 g10_g9_0 k10_g9_1 g10_g9_1 k10_g10_0 g10_g10_0 k10_g10_1 g10_g10_1 B10 z10; rintro w' ⟨h0, h1, h2, h3, h4, h5, h6, h7, h8, h9, h10, h11, h12, h13, h14, h15, h16, h17, h18, h19, h20, h21, h22, h23⟩; go_simp; try exact IntWalk.i64_in _ (by omega)
    · clear k10_b3_0 g10_b3_0 k10_b3_1 g10_b3_1 k10_b4_0 g10_b4_0 k10_b4_1 g10_b4_1 k10_b5_0 g10_b5_0 k10_b5_1 g10_b5_1 k10_g8_0 g10_g8_0 k10_g8_1 g10_g8_1 k10_g9_0 g10_g9_0 k10_g9_1 g10_g9_1 k10_g10_0 g10_g10_0 k10_g10_1 g10_g10_1 B10 z10; rintro w' ⟨h0, h1, h2, h3, h4, h5, h6, h7, h8, h9, h10, h11, h12, h13, h14, h15, h16, h17, h18, h19, h20, h21, h22, h23⟩; go_simp
    · clear k10_b3_0 g10_b3_0 k10_b3_1 g10_b3_1 k10_b4_0 g10_b4_0 k10_b4_1 g10_b4_1 k10_b5_0 g10_b5_0 k10_b5_1 g10_b5_1 k10_g8_0 g10_g8_0 k10_g8_1 g10_g8_1 k10_g9_0 g10_g9_0 k10_g9_1 g10_g9_1 k10_g10_0 g10_g10_0 k10_g10_1 g10_g10_1 B10 z10; rintro w' ⟨h0, h1, h2, h3, h4, h5, h6, h7, h8, h9, h10, h11, h12, h13, h14, h15, h16, h17, h18, h19, h20, h21, h22, h23⟩; exact m1 _
    · clear k10_b3_0 g10_b3_0 k10_b3_1 g10_b3_1 k10_b4_0 g10_b4_0 k10_b4_1 g10_b4_1 k10_b5_0 g10_b5_0 k10_b5_1 g10_b5_1 k10_g8_0 g10_g8_0 k10_g8_1 g10_g8_1 k10_g9_0 g10_g9_0 k10_g9_1 g10_g9_1 k10_g10_0 g10_g10_0 k10_g10_1 g10_g10_1 B10 z10; rintro w' ⟨h0, h1, h2, h3, h4, h5, h6, h7, h8, h9, h10, h11, h12, h13, h14, h15, h16, h17, h18, h19, h20, h21, h22, h23⟩; go_simp; try exact IntWalk.i64_in _ (by omega)
    · clear k10_b3_0 g10_b3_0 k10_b3_1 g10_b3_1 k10_b4_0 g10_b4_0 k10_b4_1 g10_b4_1 k10_b5_0 g10_b5_0 k10_b5_1 g10_b5_1 k10_g8_0 g10_g8_0 k10_g8_1 g10_g8_1 k10_g9_0 g10_g9_0 k10_g9_1 g10_g9_1 k10_g10_0 g10_g10_0 k10_g10_1 g10_g10_1 B10 z10; rintro w' ⟨h0, h1, h2, h3, h4, h5, h6, h7, h8, h9, h10, h11, h12, h13, h14, h15, h16, h17, h18, h19, h20, h21, h22, h23⟩; go_simp; try exact IntWalk.i64_in _ (by omega)
    · clear k10_b3_0 g10_b3_0 k10_b3_1 g10_b3_1 k10_b4_0 g10_b4_0 k10_b4_1 g10_b4_1 k10_b5_0 g10_b5_0 k10_b5_1 g10_b5_1 k10_g8_0 g10_g8_0 k10_g8_1 g10_g8_1 k10_g9_0 g10_g9_0 k10_g9_1 g10_g9_1 k10_g10_0 g10_g10_0 k10_g10_1 g10_g10_1 B10 z10; rintro w' ⟨h0, h1, h2, h3, h4, h5, h6, h7, h8, h9, h10, h11, h12, h13, h14, h15, h16, h17, h18, h19, h20, h21, h22, h23⟩; go_simp; try exact IntWalk.i64_in _ (by omega)
    · clear k10_b3_0 g10_b3_0 k10_b3_1 g10_b3_1 k10_b4_0 g10_b4_0 k10_b4_1 g10_b4_1 k10_b5_0 g10_b5_0 k10_b5_1 g10_b5_1 k10_g8_0 g10_g8_0 k10_g8_1 g10_g8_1 k10_g9_0 g10_g9_0 k10_g9_1 g10_g9_1 k10_g10_0 g10_g10_0 k10_g10_1 g10_g10_1 B10 z10; rintro w' ⟨h0, h1, h2, h3, h4, h5, h6, h7, h8, h9, h10, h11, h12, h13, h14, h15, h16, h17, h18, h19, h20, h21, h22, h23⟩; go_simp
    · clear k10_b3_0 g10_b3_0 k10_b3_1 g10_b3_1 k10_b4_0 g10_b4_0 k10_b4_1 g10_b4_1 k10_b5_0 g10_b5_0 k10_b5_1 g10_b5_1 k10_g8_0 g10_g8_0 k10_g8_1 g10_g8_1 k10_g9_0 g10_g9_0 k10_g9_1 g10_g9_1 k10_g10_0 g10_g10_0 k10_g10_1 g10_g10_1 B10 z10; rintro w' ⟨h0, h1, h2, h3, h4, h5, h6, h7, h8, h9, h10, h11, h12, h13, h14, h15, h16, h17, h18, h19, h20, h21, h22, h23⟩; exact vperp_small X Y hX hY _
    · clear k10_b3_0 g10_b3_0 k10_b3_1 g10_b3_1 k10_b4_0 g10_b4_0 k10_b4_1 g10_b4_1 k10_b5_0 g10_b5_0 k10_b5_1 g10_b5_1 k10_g8_0 g10_g8_0 k10_g8_1 g10_g8_1 k10_g9_0 g10_g9_0 k10_g9_1 g10_g9_1 k10_g10_0 g10_g10_0 k10_g10_1 g10_g10_1 B10 z10; rintro w' ⟨h0, h1, h2, h3, h4, h5, h6, h7, h8, h9, h10, h11, h12, h13, h14, h15, h16, h17, h18, h19, h20, h21, h22, h23⟩; go_simp; try exact IntWalk.i64_in _ (by omega)
    · clear k10_b3_0 g10_b3_0 k10_b3_1 g10_b3_1 k10_b4_0 g10_b4_0 k10_b4_1 g10_b4_1 k10_b5_0 g10_b5_0 k10_b5_1 g10_b5_1 k10_g8_0 g10_g8_0 k10_g8_1 g10_g8_1 k10_g9_0 g10_g9_0 k10_g9_1 g10_g9_1 k10_g10_0 g10_g10_0 k10_g10_1 g10_g10_1 B10 z10; rintro w' ⟨h0, h1, h2, h3, h4, h5, h6, h7, h8, h9, h10, h11, h12, h13, h14, h15, h16, h17, h18, h19, h20, h21, h22, h23⟩; go_simp
    · clear k10_b3_0 g10_b3_0 k10_b3_1 g10_b3_1 k10_b4_0 g10_b4_0 k10_b4_1 g10_b4_1 k10_b5_0 g10_b5_0 k10_b5_1 g10_b5_1 k10_g8_0 g10_g8_0 k10_g8_1 g10_g8_1 k10_g9_0 g10_g9_0 k10_g9_1 g10_g9_1 k10_g10_0 g10_g10_0 k10_g10_1 g10_g10_1 B10 z10; rintro w' ⟨h0, h1, h2, h3, h4, h5, h6, h7, h8, h9, h10, h11, h12, h13, h14, h15, h16, h17, h18, h19, h20, h21, h22, h23⟩; exact vperp_small U Z hU hZ _
    · clear k10_b3_0 g10_b3_0 k10_b3_1 g10_b3_1 k10_b4_0 g10_b4_0 k10_b4_1 g10_b4_1 k10_b5_0 g10_b5_0 k10_b5_1 g10_b5_1 k10_g8_0 g10_g8_0 k10_g8_1 g10_g8_1 k10_g9_0 g10_g9_0 k10_g9_1 g10_g9_1 k10_g10_0 g10_g10_0 k10_g10_1 g10_g10_1 B10 z10; rintro w' ⟨h0, h1, h2, h3, h4, h5, h6, h7, h8, h9, h10, h11, h12, h13, h14, h15, h16, h17, h18, h19, h20, h21, h22, h23⟩; go_simp; try exact IntWalk.i64_in _ (by omega)
    · clear k10_b3_0 g10_b3_0 k10_b3_1 g10_b3_1 k10_b4_0 g10_b4_0 k10_b4_1 g10_b4_1 k10_b5_0 g10_b5_0 k10_b5_1 g10_b5_1 k10_g8_0 g10_g8_0 k10_g8_1 g10_g8_1 k10_g9_0 g10_g9_0 k10_g9_1 g10_g9_1 k10_g10_0 g10_g10_0 k10_g10_1 g10_g10_1 B10 z10; rintro w' ⟨h0, h1, h2, h3, h4, h5, h6, h7, h8, h9, h10, h11, h12, h13, h14, h15, h16, h17, h18, h19, h20, h21, h22, h23⟩; go_simp
    · clear k10_b3_0 g10_b3_0 k10_b3_1 g10_b3_1 k10_b4_0 g10_b4_0 k10_b4_1 g10_b4_1 k10_b5_0 g10_b5_0 k10_b5_1 g10_b5_1 k10_g8_0 g10_g8_0 k10_g8_1 g10_g8_1 k10_g9_0 g10_g9_0 k10_g9_1 g10_g9_1 k10_g10_0 g10_g10_0 k10_g10_1 g10_g10_1 B10 z10; rintro w' ⟨h0, h1, h2, h3, h4, h5, h6, h7, h8, h9, h10, h11, h12, h13, h14, h15, h16, h17, h18, h19, h20, h21, h22, h23⟩; exact vperp_small S T hS hT _
    · clear k10_b3_0 g10_b3_0 k10_b3_1 g10_b3_1 k10_b4_0 g10_b4_0 k10_b4_1 g10_b4_1 k10_b5_0 g10_b5_0 k10_b5_1 g10_b5_1 k10_g8_0 g10_g8_0 k10_g8_1 g10_g8_1 k10_g9_0 g10_g9_0 k10_g9_1 g10_g9_1 k10_g10_0 g10_g10_0 k10_g10_1 g10_g10_1 B10 z10; rintro w' ⟨h0, h1, h2, h3, h4, h5, h6, h7, h8, h9, h10, h11, h12, h13, h14, h15, h16, h17, h18, h19, h20, h21, h22, h23⟩; go_simp
    · clear k10_b3_0 g10_b3_0 k10_b3_1 g10_b3_1 k10_b4_0 g10_b4_0 k10_b4_1 g10_b4_1 k10_b5_0 g10_b5_0 k10_b5_1 g10_b5_1 k10_g8_0 g10_g8_0 k10_g8_1 g10_g8_1 k10_g9_0 g10_g9_0 k10_g9_1 g10_g9_1 k10_g10_0 g10_g10_0 k10_g10_1 g10_g10_1 B10 z10; rintro w' ⟨h0, h1, h2, h3, h4, h5, h6, h7, h8, h9, h10, h11, h12, h13, h14, h15, h16, h17, h18, h19, h20, h21, h22, h23⟩; exact m3 _
    · clear k10_b3_0 g10_b3_0 k10_b3_1 g10_b3_1 k10_b4_0 g10_b4_0 k10_b4_1 g10_b4_1 k10_b5_0 g10_b5_0 k10_b5_1 g10_b5_1 k10_g8_0 g10_g8_0 k10_g8_1 g10_g8_1 k10_g9_0 g10_g9_0 k10_g9_1 g10_g9_1 k10_g10_0 g10_g10_0 k10_g10_1 g10_g10_1 B10 z10; rintro w' ⟨h0, h1, h2, h3, h4, h5, h6, h7, h8, h9, h10, h11, h12, h13, h14, h15, h16, h17, h18, h19, h20, h21, h22, h23⟩; go_simp; try exact IntWalk.i64_in _ (by omega)
    · clear k10_b3_0 g10_b3_0 k10_b3_1 g10_b3_1 k10_b4_0 g10_b4_0 k10_b4_1 g10_b4_1 k10_b5_0 g10_b5_0 k10_b5_1 g10_b5_1 k10_g8_0 g10_g8_0 k10_g8_1 g10_g8_1 k10_g9_0 g10_g9_0 k10_g9_1 g10_g9_1 k10_g10_0 g10_g10_0 k10_g10_1 g10_g10_1 B10 z10; rintro w' ⟨h0, h1, h2, h3, h4, h5, h6, h7, h8, h9, h10, h11, h12, h13, h14, h15, h16, h17, h18, h19, h20, h21, h22, h23⟩; go_simp; try exact IntWalk.i64_in _ (by omega)
    · clear k10_b3_0 g10_b3_0 k10_b3_1 g10_b3_1 k10_b4_0 g10_b4_0 k10_b4_1 g10_b4_1 k10_b5_0 g10_b5_0 k10_b5_1 g10_b5_1 k10_g8_0 g10_g8_0 k10_g8_1 g10_g8_1 k10_g9_0 g10_g9_0 k10_g9_1 g10_g9_1 k10_g10_0 g10_g10_0 k10_g10_1 g10_g10_1 B10 z10; rintro w' ⟨h0, h1, h2, h3, h4, h5, h6, h7, h8, h9, h10, h11, h12, h13, h14, h15, h16, h17, h18, h19, h20, h21, h22, h23⟩; go_simp; try exact IntWalk.i64_in _ (by omega)
    · clear k10_b3_0 g10_b3_0 k10_b3_1 g10_b3_1 k10_b4_0 g10_b4_0 k10_b4_1 g10_b4_1 k10_b5_0 g10_b5_0 k10_b5_1 g10_b5_1 k10_g8_0 g10_g8_0 k10_g8_1 g10_g8_1 k10_g9_0 g10_g9_0 k10_g9_1 g10_g9_1 k10_g10_0 g10_g10_0 k10_g10_1 g10_g10_1 B10 z10; rintro w' ⟨h0, h1, h2, h3, h4, h5, h6, h7, h8, h9, h10, h11, h12, h13, h14, h15, h16, h17, h18, h19, h20, h21, h22, h23⟩; go_simp
    · clear k10_b3_0 g10_b3_0 k10_b3_1 g10_b3_1 k10_b4_0 g10_b4_0 k10_b4_1 g10_b4_1 k10_b5_0 g10_b5_0 k10_b5_1 g10_b5_1 k10_g8_0 g10_g8_0 k10_g8_1 g10_g8_1 k10_g9_0 g10_g9_0 k10_g9_1 g10_g9_1 k10_g10_0 g10_g10_0 k10_g10_1 g10_g10_1 B10 z10; rintro w' ⟨h0, h1, h2, h3, h4, h5, h6, h7, h8, h9, h10, h11, h12, h13, h14, h15, h16, h17, h18, h19, h20, h21, h22, h23⟩; exact m1 _
    · clear k10_b3_0 g10_b3_0 k10_b3_1 g10_b3_1 k10_b4_0 g10_b4_0 k10_b4_1 g10_b4_1 k10_b5_0 g10_b5_0 k10_b5_1 g10_b5_1 k10_g8_0 g10_g8_0 k10_g8_1 g10_g8_1 k10_g9_0 g10_g9_0 k10_g9_1 g10_g9_1 k10_g10_0 g10_g10_0 k10_g10_1 g10_g10_1 B10 z10; rintro w' ⟨h0, h1, h2, h3, h4, h5, h6, h7, h8, h9, h10, h11, h12, h13, h14, h15, h16, h17, h18, h19, h20, h21, h22, h23⟩; go_simp; try exact IntWalk.i64_in _ (by omega)
    · clear k10_b3_0 g10_b3_0 k10_b3_1 g10_b3_1 k10_b4_0 g10_b4_0 k10_b4_1 g10_b4_1 k10_b5_0 g10_b5_0 k10_b5_1 g10_b5_1 k10_g8_0 g10_g8_0 k10_g8_1 g10_g8_1 k10_g9_0 g10_g9_0 k10_g9_1 g10_g9_1 k10_g10_0 g10_g10_0 k10_g10_1 g10_g10_1 B10 z10; rintro w' ⟨h0, h1, h2, h3, h4, h5, h6, h7, h8, h9, h10, h11, h12, h13, h14, h15, h16, h17, h18, h19, h20, h21, h22, h23⟩; go_simp; try exact IntWalk.i64_in _ (by omega)
    · clear k10_b3_0 g10_b3_0 k10_b3_1 g10_b3_1 k10_b4_0 g10_b4_0 k10_b4_1 g10_b4_1 k10_b5_0 g10_b5_0 k10_b5_1 g10_b5_1 k10_g8_0 g10_g8_0 k10_g8_1 g10_g8_1 k10_g9_0 g10_g9_0 k10_g9_1 g10_g9_1 k10_g10_0 g10_g10_0 k10_g10_1 g10_g10_1 B10 z10; rintro w' ⟨h0, h1, h2, h3, h4, h5, h6, h7, h8, h9, h10, h11, h12, h13, h14, h15, h16, h17, h18, h19, h20, h21, h22, h23⟩; go_simp; try exact IntWalk.i64_in _ (by omega)
    · clear k10_b3_0 g10_b3_0 k10_b3_1 g10_b3_1 k10_b4_0 g10_b4_0 k10_b4_1 g10_b4_1 k10_b5_0 g10_b5_0 k10_b5_1 g10_b5_1 k10_g8_0 g10_g8_0 k10_g8_1 g10_g8_1 k10_g9_0 g10_g9_0 k10_g9_1 g10_g9_1 k10_g10_0 g10_g10_0 k10_g10_1 g10_g10_1 B10 z10; rintro w' ⟨h0, h1, h2, h3, h4, h5, h6, h7, h8, h9, h10, h11, h12, h13, h14, h15, h16, h17, h18, h19, h20, h21, h22, h23⟩; go_simp
    · clear k10_b3_0 g10_b3_0 k10_b3_1 g10_b3_1 k10_b4_0 g10_b4_0 k10_b4_1 g10_b4_1 k10_b5_0 g10_b5_0 k10_b5_1 g10_b5_1 k10_g8_0 g10_g8_0 k10_g8_1 g10_g8_1 k10_g9_0 g10_g9_0 k10_g9_1 g10_g9_1 k10_g10_0 g10_g10_0 k10_g10_1 g10_g10_1 B10 z10; rintro w' ⟨h0, h1, h2, h3, h4, h5, h6, h7, h8, h9, h10, h11, h12, h13, h14, h15, h16, h17, h18, h19, h20, h21, h22, h23⟩; exact example_any _
    · clear k10_b3_0 g10_b3_0 k10_b3_1 g10_b3_1 k10_b4_0 g10_b4_0 k10_b4_1 g10_b4_1 k10_b5_0 g10_b5_0 k10_b5_1 g10_b5_1 k10_g8_0 g10_g8_0 k10_g8_1 g10_g8_1 k10_g9_0 g10_g9_0 k10_g9_1 g10_g9_1 k10_g10_0 g10_g10_0 k10_g10_1 g10_g10_1 B10 z10; rintro w' ⟨h0, h1, h2, h3, h4, h5, h6, h7, h8, h9, h10, h11, h12, h13, h14, h15, h16, h17, h18, h19, h20, h21, h22, h23⟩; go_simp; try exact IntWalk.i64_in _ (by omega)
    · clear k10_b3_0 g10_b3_0 k10_b3_1 g10_b3_1 k10_b4_0 g10_b4_0 k10_b4_1 g10_b4_1 k10_b5_0 g10_b5_0 k10_b5_1 g10_b5_1 k10_g8_0 g10_g8_0 k10_g8_1 g10_g8_1 k10_g9_0 g10_g9_0 k10_g9_1 g10_g9_1 k10_g10_0 g10_g10_0 k10_g10_1 g10_g10_1 B10 z10; rintro w' ⟨h0, h1, h2, h3, h4, h5, h6, h7, h8, h9, h10, h11, h12, h13, h14, h15, h16, h17, h18, h19, h20, h21, h22, h23⟩; go_simp; try exact IntWalk.i64_in _ (by omega)
    rintro w11 ⟨h0, h1, h2, h3, h4, h5, h6, h7, h8, h9, h10, h11, h12, h13, h14, h15, h16, h17, h18, h19, h20, h21, h22, h23⟩ hb11 hF
    clear hF
    have k11_b3_0 := bcs hb11 k10_b3_0
    have g11_b3_0 := bfs hb11 k10_b3_0 g10_b3_0
    have k11_b3_1 := bcs hb11 k10_b3_1
    have g11_b3_1 := bfs hb11 k10_b3_1 g10_b3_1
    have k11_b4_0 := bcs hb11 k10_b4_0
    have g11_b4_0 := bfs hb11 k10_b4_0 g10_b4_0
    have k11_b4_1 := bcs hb11 k10_b4_1
    have g11_b4_1 := bfs hb11 k10_b4_1 g10_b4_1
    have k11_b5_0 := bcs hb11 k10_b5_0
    have g11_b5_0 := bfs hb11 k10_b5_0 g10_b5_0
    have k11_b5_1 := bcs hb11 k10_b5_1
    have g11_b5_1 := bfs hb11 k10_b5_1 g10_b5_1
    have k11_g8_0 := bcs hb11 k10_g8_0
    have g11_g8_0 := bfs hb11 k10_g8_0 g10_g8_0
    have k11_g8_1 := bcs hb11 k10_g8_1
    have g11_g8_1 := bfs hb11 k10_g8_1 g10_g8_1
    have k11_g9_0 := bcs hb11 k10_g9_0
    have g11_g9_0 := bfs hb11 k10_g9_0 g10_g9_0
    have k11_g9_1 := bcs hb11 k10_g9_1
    have g11_g9_1 := bfs hb11 k10_g9_1 g10_g9_1
    have k11_g10_0 := bcs hb11 k10_g10_0
    have g11_g10_0 := bfs hb11 k10_g10_0 g10_g10_0
    have k11_g10_1 := bcs hb11 k10_g10_1
    have g11_g10_1 := bfs hb11 k10_g10_1 g10_g10_1
    clear h0 h1 h2 h3 h4 h5 h6 h7 h8 h9 h10 h11 h12 h13 h14 h15 h16 h17 h18 h19 h20 h21 h22 h23
    have B11 := bel_step B10 hb11
    have z11 := Nat.le_trans z10 hb11.size
    clear hb11
    (try clear B10)
    (try clear z10)
    (try clear k10_b3_0)
    (try clear g10_b3_0)
    (try clear k10_b3_1)
    (try clear g10_b3_1)
    (try clear k10_b4_0)
    (try clear g10_b4_0)
    (try clear k10_b4_1)
    (try clear g10_b4_1)
    (try clear k10_b5_0)
    (try clear g10_b5_0)
    (try clear k10_b5_1)
    (try clear g10_b5_1)
    (try clear k10_g8_0)
    (try clear g10_g8_0)
    (try clear k10_g8_1)
    (try clear g10_g8_1)
    (try clear k10_g9_0)
    (try clear g10_g9_0)
    (try clear k10_g9_1)
    (try clear g10_g9_1)
    (try clear k10_g10_0)
    (try clear g10_g10_0)
    (try clear k10_g10_1)
    (try clear g10_g10_1)
    (try clear q10_b3)
    (try clear x10_b3)
    (try clear y10_b3)
    (try clear q10_b4)
    (try clear x10_b4)
    (try clear y10_b4)
    (try clear q10_b5)
    (try clear x10_b5)
    (try clear y10_b5)
    (try clear q10_g8)
    (try clear x10_g8)
    (try clear y10_g8)
    (try clear q10_g9)
    (try clear x10_g9)
    (try clear y10_g9)
    (try clear q10_g10)
    (try clear x10_g10)
    (try clear y10_g10)
    have q11_b3 : w.heap.size < w11.heap.size := qlt k11_b3_0
    have x11_b3 : ¬ w.heap.size = w11.heap.size := qne k11_b3_0
    have y11_b3 : ¬ w11.heap.size = w.heap.size := fun h => qne k11_b3_0 h.symm
    have q11_b4 : w.heap.size + 1 < w11.heap.size := qlt k11_b4_0
    have x11_b4 : ¬ w.heap.size + 1 = w11.heap.size := qne k11_b4_0
    have y11_b4 : ¬ w11.heap.size = w.heap.size + 1 := fun h => qne k11_b4_0 h.symm
    have q11_b5 : w.heap.size + 1 + 1 < w11.heap.size := qlt k11_b5_0
    have x11_b5 : ¬ w.heap.size + 1 + 1 = w11.heap.size := qne k11_b5_0
    have y11_b5 : ¬ w11.heap.size = w.heap.size + 1 + 1 := fun h => qne k11_b5_0 h.symm
    have q11_g8 : g8 < w11.heap.size := qlt k11_g8_0
    have x11_g8 : ¬ g8 = w11.heap.size := qne k11_g8_0
    have y11_g8 : ¬ w11.heap.size = g8 := fun h => qne k11_g8_0 h.symm
    have q11_g9 : g9 < w11.heap.size := qlt k11_g9_0
    have x11_g9 : ¬ g9 = w11.heap.size := qne k11_g9_0
    have y11_g9 : ¬ w11.heap.size = g9 := fun h => qne k11_g9_0 h.symm
    have q11_g10 : g10 < w11.heap.size := qlt k11_g10_0
    have x11_g10 : ¬ g10 = w11.heap.size := qne k11_g10_0
    have y11_g10 : ¬ w11.heap.size = g10 := fun h => qne k11_g10_0 h.symm
    go_wp2
    go_ret
    refine ⟨rfl, ?_⟩
    repeat (first | with_reducible exact Below.refl _ _ | with_reducible exact B11 | with_reducible apply below_drewN | with_reducible apply Below.drew | (with_reducible refine Below.alloc ?_ (by first | (simp; done) | (simp; omega) | omega) _) | (with_reducible refine Below.setCell ?_ (by first | (simp; done) | (simp; omega) | omega) _))
  | true =>
    have h0 := hn rfl
    have h1 : (O != 0) = false := by simp [h0]
    clear h0 hn
    go_enter Try.func6, Try.ntmps6
    go_wp2_with (first | (go_at_call 26; (with_reducible refine (c1 _).mono ?_); rintro e w1 ⟨rfl, hb1⟩; have k1_b3_0 : w1.cell? ⟨w.heap.size, 0, none⟩ = some (.int .i64 x) := bcs hb1 (by go_simp); have g1_b3_0 : w1.frozen? ⟨w.heap.size, 0, none⟩ = false := bfs hb1 (v := .int .i64 x) (by go_simp) (by go_simp); have k1_b3_1 : w1.cell? ⟨w.heap.size, 1, none⟩ = some (.int .i64 y) := bcs hb1 (by go_simp); have g1_b3_1 : w1.frozen? ⟨w.heap.size, 1, none⟩ = false := bfs hb1 (v := .int .i64 y) (by go_simp) (by go_simp); have k1_b4_0 : w1.cell? ⟨w.heap.size + 1, 0, none⟩ = some (.int .i64 u) := bcs hb1 (by go_simp); have g1_b4_0 : w1.frozen? ⟨w.heap.size + 1, 0, none⟩ = false := bfs hb1 (v := .int .i64 u) (by go_simp) (by go_simp); have k1_b4_1 : w1.cell? ⟨w.heap.size + 1, 1, none⟩ = some (.int .i64 v) := bcs hb1 (by go_simp); have g1_b4_1 : w1.frozen? ⟨w.heap.size + 1, 1, none⟩ = false := bfs hb1 (v := .int .i64 v) (by go_simp) (by go_simp); have k1_b5_0 : w1.cell? ⟨w.heap.size + 1 + 1, 0, none⟩ = some (.int .i64 s) := bcs hb1 (by go_simp); have g1_b5_0 : w1.frozen? ⟨w.heap.size + 1 + 1, 0, none⟩ = false := bfs hb1 (v := .int .i64 s) (by go_simp) (by go_simp); have k1_b5_1 : w1.cell? ⟨w.heap.size + 1 + 1, 1, none⟩ = some (.int .i64 t) := bcs hb1 (by go_simp); have g1_b5_1 : w1.frozen? ⟨w.heap.size + 1 + 1, 1, none⟩ = false := bfs hb1 (v := .int .i64 t) (by go_simp) (by go_simp); have q1_b3 : w.heap.size < w1.heap.size := qlt k1_b3_0; have x1_b3 : ¬ w.heap.size = w1.heap.size := qne k1_b3_0; have y1_b3 : ¬ w1.heap.size = w.heap.size := fun h => qne k1_b3_0 h.symm; have q1_b4 : w.heap.size + 1 < w1.heap.size := qlt k1_b4_0; have x1_b4 : ¬ w.heap.size + 1 = w1.heap.size := qne k1_b4_0; have y1_b4 : ¬ w1.heap.size = w.heap.size + 1 := fun h => qne k1_b4_0 h.symm; have q1_b5 : w.heap.size + 1 + 1 < w1.heap.size := qlt k1_b5_0; have x1_b5 : ¬ w.heap.size + 1 + 1 = w1.heap.size := qne k1_b5_0; have y1_b5 : ¬ w1.heap.size = w.heap.size + 1 + 1 := fun h => qne k1_b5_0 h.symm; have B1 : Below w.heap.size w w1 := bel_step (by repeat (first | with_reducible exact Below.refl _ _ | fail | with_reducible apply below_drewN | with_reducible apply Below.drew | (with_reducible refine Below.alloc ?_ (by first | (simp; done) | (simp; omega) | omega) _) | (with_reducible refine Below.setCell ?_ (by first | (simp; done) | (simp; omega) | omega) _))) hb1; have z1 : w.heap.size + 1 + 1 + 1 ≤ w1.heap.size := Nat.le_trans (by first | with_reducible assumption | (simp; done) | (simp; omega)) hb1.size; clear hb1) | (go_at_call 26; (with_reducible refine (c2 _).mono ?_); rintro e w2 ⟨rfl, hb2⟩; have k2_b3_0 : w2.cell? ⟨w.heap.size, 0, none⟩ = some (.int .i64 x) := bcs hb2 (by go_simp); have g2_b3_0 : w2.frozen? ⟨w.heap.size, 0, none⟩ = false := bfs hb2 (v := .int .i64 x) (by go_simp) (by go_simp); have k2_b3_1 : w2.cell? ⟨w.heap.size, 1, none⟩ = some (.int .i64 y) := bcs hb2 (by go_simp); have g2_b3_1 : w2.frozen? ⟨w.heap.size, 1, none⟩ = false := bfs hb2 (v := .int .i64 y) (by go_simp) (by go_simp); have k2_b4_0 : w2.cell? ⟨w.heap.size + 1, 0, none⟩ = some (.int .i64 u) := bcs hb2 (by go_simp); have g2_b4_0 : w2.frozen? ⟨w.heap.size + 1, 0, none⟩ = false := bfs hb2 (v := .int .i64 u) (by go_simp) (by go_simp); have k2_b4_1 : w2.cell? ⟨w.heap.size + 1, 1, none⟩ = some (.int .i64 v) := bcs hb2 (by go_simp); have g2_b4_1 : w2.frozen? ⟨w.heap.size + 1, 1, none⟩ = false := bfs hb2 (v := .int .i64 v) (by go_simp) (by go_simp); have k2_b5_0 : w2.cell? ⟨w.heap.size + 1 + 1, 0, none⟩ = some (.int .i64 s) := bcs hb2 (by go_simp); have g2_b5_0 : w2.frozen? ⟨w.heap.size + 1 + 1, 0, none⟩ = false := bfs hb2 (v := .int .i64 s) (by go_simp) (by go_simp); have k2_b5_1 : w2.cell? ⟨w.heap.size + 1 + 1, 1, none⟩ = some (.int .i64 t) := bcs hb2 (by go_simp); have g2_b5_1 : w2.frozen? ⟨w.heap.size + 1 + 1, 1, none⟩ = false := bfs hb2 (v := .int .i64 t) (by go_simp) (by go_simp); have q2_b3 : w.heap.size < w2.heap.size := qlt k2_b3_0; have x2_b3 : ¬ w.heap.size = w2.heap.size := qne k2_b3_0; have y2_b3 : ¬ w2.heap.size = w.heap.size := fun h => qne k2_b3_0 h.symm; have q2_b4 : w.heap.size + 1 < w2.heap.size := qlt k2_b4_0; have x2_b4 : ¬ w.heap.size + 1 = w2.heap.size := qne k2_b4_0; have y2_b4 : ¬ w2.heap.size = w.heap.size + 1 := fun h => qne k2_b4_0 h.symm; have q2_b5 : w.heap.size + 1 + 1 < w2.heap.size := qlt k2_b5_0; have x2_b5 : ¬ w.heap.size + 1 + 1 = w2.heap.size := qne k2_b5_0; have y2_b5 : ¬ w2.heap.size = w.heap.size + 1 + 1 := fun h => qne k2_b5_0 h.symm; have B2 : Below w.heap.size w w2 := bel_step (by repeat (first | with_reducible exact Below.refl _ _ | with_reducible exact B1 | with_reducible apply below_drewN | with_reducible apply Below.drew | (with_reducible refine Below.alloc ?_ (by first | (simp; done) | (simp; omega) | omega) _) | (with_reducible refine Below.setCell ?_ (by first | (simp; done) | (simp; omega) | omega) _))) hb2; have z2 : w.heap.size + 1 + 1 + 1 ≤ w2.heap.size := Nat.le_trans (by first | with_reducible assumption | (simp; done) | (simp; omega)) hb2.size; clear hb2; (try clear k1_b3_0); (try clear g1_b3_0); (try clear k1_b3_1); (try clear g1_b3_1); (try clear k1_b4_0); (try clear g1_b4_0); (try clear k1_b4_1); (try clear g1_b4_1); (try clear k1_b5_0); (try clear g1_b5_0); (try clear k1_b5_1); (try clear g1_b5_1); (try clear B1); (try clear z1); (try clear q1_b3); (try clear x1_b3); (try clear y1_b3); (try clear q1_b4); (try clear x1_b4); (try clear y1_b4); (try clear q1_b5); (try clear x1_b5); (try clear y1_b5)) | (go_at_call 26; (with_reducible refine (c3 _).mono ?_); rintro e w3 ⟨rfl, hb3⟩; have k3_b3_0 : w3.cell? ⟨w.heap.size, 0, none⟩ = some (.int .i64 x) := bcs hb3 (by go_simp); have g3_b3_0 : w3.frozen? ⟨w.heap.size, 0, none⟩ = false := bfs hb3 (v := .int .i64 x) (by go_simp) (by go_simp); have k3_b3_1 : w3.cell? ⟨w.heap.size, 1, none⟩ = some (.int .i64 y) := bcs hb3 (by go_simp); have g3_b3_1 : w3.frozen? ⟨w.heap.size, 1, none⟩ = false := bfs hb3 (v := .int .i64 y) (by go_simp) (by go_simp); have k3_b4_0 : w3.cell? ⟨w.heap.size + 1, 0, none⟩ = some (.int .i64 u) := bcs hb3 (by go_simp); have g3_b4_0 : w3.frozen? ⟨w.heap.size + 1, 0, none⟩ = false := bfs hb3 (v := .int .i64 u) (by go_simp) (by go_simp); have k3_b4_1 : w3.cell? ⟨w.heap.size + 1, 1, none⟩ = some (.int .i64 v) := bcs hb3 (by go_simp); have g3_b4_1 : w3.frozen? ⟨w.heap.size + 1, 1, none⟩ = false := bfs hb3 (v := .int .i64 v) (by go_simp) (by go_simp); have k3_b5_0 : w3.cell? ⟨w.heap.size + 1 + 1, 0, none⟩ = some (.int .i64 s) := bcs hb3 (by go_simp); have g3_b5_0 : w3.frozen? ⟨w.heap.size + 1 + 1, 0, none⟩ = false := bfs hb3 (v := .int .i64 s) (by go_simp) (by go_simp); have k3_b5_1 : w3.cell? ⟨w.heap.size + 1 + 1, 1, none⟩ = some (.int .i64 t) := bcs hb3 (by go_simp); have g3_b5_1 : w3.frozen? ⟨w.heap.size + 1 + 1, 1, none⟩ = false := bfs hb3 (v := .int .i64 t) (by go_simp) (by go_simp); have q3_b3 : w.heap.size < w3.heap.size := qlt k3_b3_0; have x3_b3 : ¬ w.heap.size = w3.heap.size := qne k3_b3_0; have y3_b3 : ¬ w3.heap.size = w.heap.size := fun h => qne k3_b3_0 h.symm; have q3_b4 : w.heap.size + 1 < w3.heap.size := qlt k3_b4_0; have x3_b4 : ¬ w.heap.size + 1 = w3.heap.size := qne k3_b4_0; have y3_b4 : ¬ w3.heap.size = w.heap.size + 1 := fun h => qne k3_b4_0 h.symm; have q3_b5 : w.heap.size + 1 + 1 < w3.heap.size := qlt k3_b5_0; have x3_b5 : ¬ w.heap.size + 1 + 1 = w3.heap.size := qne k3_b5_0; have y3_b5 : ¬ w3.heap.size = w.heap.size + 1 + 1 := fun h => qne k3_b5_0 h.symm; have B3 : Below w.heap.size w w3 := bel_step (by repeat (first | with_reducible exact Below.refl _ _ | with_reducible exact B2 | with_reducible apply below_drewN | with_reducible apply Below.drew | (with_reducible refine Below.alloc ?_ (by first | (simp; done) | (simp; omega) | omega) _) | (with_reducible refine Below.setCell ?_ (by first | (simp; done) | (simp; omega) | omega) _))) hb3; have z3 : w.heap.size + 1 + 1 + 1 ≤ w3.heap.size := Nat.le_trans (by first | with_reducible assumption | (simp; done) | (simp; omega)) hb3.size; clear hb3; (try clear k2_b3_0); (try clear g2_b3_0); (try clear k2_b3_1); (try clear g2_b3_1); (try clear k2_b4_0); (try clear g2_b4_0); (try clear k2_b4_1); (try clear g2_b4_1); (try clear k2_b5_0); (try clear g2_b5_0); (try clear k2_b5_1); (try clear g2_b5_1); (try clear B2); (try clear z2); (try clear q2_b3); (try clear x2_b3); (try clear y2_b3); (try clear q2_b4); (try clear x2_b4); (try clear y2_b4); (try clear q2_b5); (try clear x2_b5); (try clear y2_b5)) | (go_at_call 26; (with_reducible refine (c4 _).mono ?_); rintro e w4 ⟨rfl, hb4⟩; have k4_b3_0 : w4.cell? ⟨w.heap.size, 0, none⟩ = some (.int .i64 x) := bcs hb4 (by go_simp); have g4_b3_0 : w4.frozen? ⟨w.heap.size, 0, none⟩ = false := bfs hb4 (v := .int .i64 x) (by go_simp) (by go_simp); have k4_b3_1 : w4.cell? ⟨w.heap.size, 1, none⟩ = some (.int .i64 y) := bcs hb4 (by go_simp); have g4_b3_1 : w4.frozen? ⟨w.heap.size, 1, none⟩ = false := bfs hb4 (v := .int .i64 y) (by go_simp) (by go_simp); have k4_b4_0 : w4.cell? ⟨w.heap.size + 1, 0, none⟩ = some (.int .i64 u) := bcs hb4 (by go_simp); have g4_b4_0 : w4.frozen? ⟨w.heap.size + 1, 0, none⟩ = false := bfs hb4 (v := .int .i64 u) (by go_simp) (by go_simp); have k4_b4_1 : w4.cell? ⟨w.heap.size + 1, 1, none⟩ = some (.int .i64 v) := bcs hb4 (by go_simp); have g4_b4_1 : w4.frozen? ⟨w.heap.size + 1, 1, none⟩ = false := bfs hb4 (v := .int .i64 v) (by go_simp) (by go_simp); have k4_b5_0 : w4.cell? ⟨w.heap.size + 1 + 1, 0, none⟩ = some (.int .i64 s) := bcs hb4 (by go_simp); have g4_b5_0 : w4.frozen? ⟨w.heap.size + 1 + 1, 0, none⟩ = false := bfs hb4 (v := .int .i64 s) (by go_simp) (by go_simp); have k4_b5_1 : w4.cell? ⟨w.heap.size + 1 + 1, 1, none⟩ = some (.int .i64 t) := bcs hb4 (by go_simp); have g4_b5_1 : w4.frozen? ⟨w.heap.size + 1 + 1, 1, none⟩ = false := bfs hb4 (v := .int .i64 t) (by go_simp) (by go_simp); have q4_b3 : w.heap.size < w4.heap.size := qlt k4_b3_0; have x4_b3 : ¬ w.heap.size = w4.heap.size := qne k4_b3_0; have y4_b3 : ¬ w4.heap.size = w.heap.size := fun h => qne k4_b3_0 h.symm; have q4_b4 : w.heap.size + 1 < w4.heap.size := qlt k4_b4_0; have x4_b4 : ¬ w.heap.size + 1 = w4.heap.size := qne k4_b4_0; have y4_b4 : ¬ w4.heap.size = w.heap.size + 1 := fun h => qne k4_b4_0 h.symm; have q4_b5 : w.heap.size + 1 + 1 < w4.heap.size := qlt k4_b5_0; have x4_b5 : ¬ w.heap.size + 1 + 1 = w4.heap.size := qne k4_b5_0; have y4_b5 : ¬ w4.heap.size = w.heap.size + 1 + 1 := fun h => qne k4_b5_0 h.symm; have B4 : Below w.heap.size w w4 := bel_step (by repeat (first | with_reducible exact Below.refl _ _ | with_reducible exact B3 | with_reducible apply below_drewN | with_reducible apply Below.drew | (with_reducible refine Below.alloc ?_ (by first | (simp; done) | (simp; omega) | omega) _) | (with_reducible refine Below.setCell ?_ (by first | (simp; done) | (simp; omega) | omega) _))) hb4; have z4 : w.heap.size + 1 + 1 + 1 ≤ w4.heap.size := Nat.le_trans (by first | with_reducible assumption | (simp; done) | (simp; omega)) hb4.size; clear hb4; (try clear k3_b3_0); (try clear g3_b3_0); (try clear k3_b3_1); (try clear g3_b3_1); (try clear k3_b4_0); (try clear g3_b4_0); (try clear k3_b4_1); (try clear g3_b4_1); (try clear k3_b5_0); (try clear g3_b5_0); (try clear k3_b5_1); (try clear g3_b5_1); (try clear B3); (try clear z3); (try clear q3_b3); (try clear x3_b3); (try clear y3_b3); (try clear q3_b4); (try clear x3_b4); (try clear y3_b4); (try clear q3_b5); (try clear x3_b5); (try clear y3_b5)) | (go_at_call 26; (with_reducible refine (c5 _).mono ?_); rintro e w5 ⟨rfl, hb5⟩; have k5_b3_0 : w5.cell? ⟨w.heap.size, 0, none⟩ = some (.int .i64 x) := bcs hb5 (by go_simp); have g5_b3_0 : w5.frozen? ⟨w.heap.size, 0, none⟩ = false := bfs hb5 (v := .int .i64 x) (by go_simp) (by go_simp); have k5_b3_1 : w5.cell? ⟨w.heap.size, 1, none⟩ = some (.int .i64 y) := bcs hb5 (by go_simp); have g5_b3_1 : w5.frozen? ⟨w.heap.size, 1, none⟩ = false := bfs hb5 (v := .int .i64 y) (by go_simp) (by go_simp); have k5_b4_0 : w5.cell? ⟨w.heap.size + 1, 0, none⟩ = some (.int .i64 u) := bcs hb5 (by go_simp); have g5_b4_0 : w5.frozen? ⟨w.heap.size + 1, 0, none⟩ = false := bfs hb5 (v := .int .i64 u) (by go_simp) (by go_simp); have k5_b4_1 : w5.cell? ⟨w.heap.size + 1, 1, none⟩ = some (.int .i64 v) := bcs hb5 (by go_simp); have g5_b4_1 : w5.frozen? ⟨w.heap.size + 1, 1, none⟩ = false := bfs hb5 (v := .int .i64 v) (by go_simp) (by go_simp); have k5_b5_0 : w5.cell? ⟨w.heap.size + 1 + 1, 0, none⟩ = some (.int .i64 s) := bcs hb5 (by go_simp); have g5_b5_0 : w5.frozen? ⟨w.heap.size + 1 + 1, 0, none⟩ = false := bfs hb5 (v := .int .i64 s) (by go_simp) (by go_simp); have k5_b5_1 : w5.cell? ⟨w.heap.size + 1 + 1, 1, none⟩ = some (.int .i64 t) := bcs hb5 (by go_simp); have g5_b5_1 : w5.frozen? ⟨w.heap.size + 1 + 1, 1, none⟩ = false := bfs hb5 (v := .int .i64 t) (by go_simp) (by go_simp); have q5_b3 : w.heap.size < w5.heap.size := qlt k5_b3_0; have x5_b3 : ¬ w.heap.size = w5.heap.size := qne k5_b3_0; have y5_b3 : ¬ w5.heap.size = w.heap.size := fun h => qne k5_b3_0 h.symm; have q5_b4 : w.heap.size + 1 < w5.heap.size := qlt k5_b4_0; have x5_b4 : ¬ w.heap.size + 1 = w5.heap.size := qne k5_b4_0; have y5_b4 : ¬ w5.heap.size = w.heap.size + 1 := fun h => qne k5_b4_0 h.symm; have q5_b5 : w.heap.size + 1 + 1 < w5.heap.size := qlt k5_b5_0; have x5_b5 : ¬ w.heap.size + 1 + 1 = w5.heap.size := qne k5_b5_0; have y5_b5 : ¬ w5.heap.size = w.heap.size + 1 + 1 := fun h => qne k5_b5_0 h.symm; have B5 : Below w.heap.size w w5 := bel_step (by repeat (first | with_reducible exact Below.refl _ _ | with_reducible exact B4 | with_reducible apply below_drewN | with_reducible apply Below.drew | (with_reducible refine Below.alloc ?_ (by first | (simp; done) | (simp; omega) | omega) _) | (with_reducible refine Below.setCell ?_ (by first | (simp; done) | (simp; omega) | omega) _))) hb5; have z5 : w.heap.size + 1 + 1 + 1 ≤ w5.heap.size := Nat.le_trans (by first | with_reducible assumption | (simp; done) | (simp; omega)) hb5.size; clear hb5; (try clear k4_b3_0); (try clear g4_b3_0); (try clear k4_b3_1); (try clear g4_b3_1); (try clear k4_b4_0); (try clear g4_b4_0); (try clear k4_b4_1); (try clear g4_b4_1); (try clear k4_b5_0); (try clear g4_b5_0); (try clear k4_b5_1); (try clear g4_b5_1); (try clear B4); (try clear z4); (try clear q4_b3); (try clear x4_b3); (try clear y4_b3); (try clear q4_b4); (try clear x4_b4); (try clear y4_b4); (try clear q4_b5); (try clear x4_b5); (try clear y4_b5)))
    refine wp_region_ord (fun w' => w'.cell? ⟨w.heap.size, 0, none⟩ = some (.int .i64 x) ∧ w'.frozen? ⟨w.heap.size, 0, none⟩ = false ∧ w'.cell? ⟨w.heap.size, 1, none⟩ = some (.int .i64 y) ∧ w'.frozen? ⟨w.heap.size, 1, none⟩ = false ∧ w'.cell? ⟨w.heap.size + 1, 0, none⟩ = some (.int .i64 u) ∧ w'.frozen? ⟨w.heap.size + 1, 0, none⟩ = false ∧ w'.cell? ⟨w.heap.size + 1, 1, none⟩ = some (.int .i64 v) ∧ w'.frozen? ⟨w.heap.size + 1, 1, none⟩ = false ∧ w'.cell? ⟨w.heap.size + 1 + 1, 0, none⟩ = some (.int .i64 s) ∧ w'.frozen? ⟨w.heap.size + 1 + 1, 0, none⟩ = false ∧ w'.cell? ⟨w.heap.size + 1 + 1, 1, none⟩ = some (.int .i64 t) ∧ w'.frozen? ⟨w.heap.size + 1 + 1, 1, none⟩ = false) (fun W => W.cell? ⟨w.heap.size, 0, none⟩ = some (.int .i64 x) ∧ W.frozen? ⟨w.heap.size, 0, none⟩ = false ∧ W.cell? ⟨w.heap.size, 1, none⟩ = some (.int .i64 y) ∧ W.frozen? ⟨w.heap.size, 1, none⟩ = false ∧ W.cell? ⟨w.heap.size + 1, 0, none⟩ = some (.int .i64 u) ∧ W.frozen? ⟨w.heap.size + 1, 0, none⟩ = false ∧ W.cell? ⟨w.heap.size + 1, 1, none⟩ = some (.int .i64 v) ∧ W.frozen? ⟨w.heap.size + 1, 1, none⟩ = false ∧ W.cell? ⟨w.heap.size + 1 + 1, 0, none⟩ = some (.int .i64 s) ∧ W.frozen? ⟨w.heap.size + 1 + 1, 0, none⟩ = false ∧ W.cell? ⟨w.heap.size + 1 + 1, 1, none⟩ = some (.int .i64 t) ∧ W.frozen? ⟨w.heap.size + 1 + 1, 1, none⟩ = false ∧ Below w.heap.size w W ∧ w.heap.size + 1 + 1 + 1 ≤ W.heap.size) 33 [.val (.agg #[.int .i64 x, .int .i64 y]), .val (.agg #[.int .i64 u, .int .i64 v]), .val (.agg #[.int .i64 x, .int .i64 y]), .call 28 #[.agg #[.int .i64 x, .int .i64 y], .agg #[.int .i64 u, .int .i64 v], .agg #[.int .i64 x, .int .i64 y]] (.bool true), .val (.bool false), .val (.bool false), .val (.agg #[.int .i64 x, .int .i64 y]), .val (.agg #[.int .i64 u, .int .i64 v]), .val (.agg #[.int .i64 u, .int .i64 v]), .call 28 #[.agg #[.int .i64 x, .int .i64 y], .agg #[.int .i64 u, .int .i64 v], .agg #[.int .i64 u, .int .i64 v]] (.bool true), .val (.bool false), .val (.bool false), .val (.bool false), .val (.agg #[.int .i64 x, .int .i64 y]), .val (.agg #[.int .i64 u, .int .i64 v]), .val (.agg #[.int .i64 s, .int .i64 t]), .call 28 #[.agg #[.int .i64 x, .int .i64 y], .agg #[.int .i64 u, .int .i64 v], .agg #[.int .i64 s, .int .i64 t]] (.bool true), .val (.agg #[.int .i64 u, .int .i64 v]), .val (.agg #[.int .i64 x, .int .i64 y]), .val (.agg #[.int .i64 s, .int .i64 t]), .call 28 #[.agg #[.int .i64 u, .int .i64 v], .agg #[.int .i64 x, .int .i64 y], .agg #[.int .i64 s, .int .i64 t]] (.bool true), .val (.bool false), .val (.bool false), .val (.bool false), .val (.agg #[.int .i64 x, .int .i64 y]), .val (.agg #[.int .i64 u, .int .i64 v]), .val (.agg #[.int .i64 s, .int .i64 t]), .call 28 #[.agg #[.int .i64 x, .int .i64 y], .agg #[.int .i64 u, .int .i64 v], .agg #[.int .i64 s, .int .i64 t]] (.bool true), .val (.bool true), .val (.int .i64 O), .val (.bool false), .val (.bool false), .val (.bool false)] (by kernel_rfl) (by kernel_rfl) (by rintro w1 w2 ⟨h0, h1, h2, h3, h4, h5, h6, h7, h8, h9, h10, h11⟩ hb; exact ⟨bcs hb h0, bfs hb h0 h1, bcs hb h2, bfs hb h2 h3, bcs hb h4, bfs hb h4 h5, bcs hb h6, bfs hb h6 h7, bcs hb h8, bfs hb h8 h9, bcs hb h10, bfs hb h10 h11⟩) ⟨by first | with_reducible assumption | go_simp, by first | with_reducible assumption | go_simp, by first | with_reducible assumption | go_simp, by first | with_reducible assumption | go_simp, by first | with_reducible assumption | go_simp, by first | with_reducible assumption | go_simp, by first | with_reducible assumption | go_simp, by first | with_reducible assumption | go_simp, by first | with_reducible assumption | go_simp, by first | with_reducible assumption | go_simp, by first | with_reducible assumption | go_simp, by first | with_reducible assumption | go_simp, by repeat (first | with_reducible exact Below.refl _ _ | with_reducible exact B5 | with_reducible apply below_drewN | with_reducible apply Below.drew | (with_reducible refine Below.alloc ?_ (by first | (simp; done) | (simp; omega) | omega) _) | (with_reducible refine Below.setCell ?_ (by first | (simp; done) | (simp; omega) | omega) _)), by first | with_reducible assumption | (simp; done) | (simp; omega)⟩ ?_ ?_
    · rintro W ⟨k6_b3_0, g6_b3_0, k6_b3_1, g6_b3_1, k6_b4_0, g6_b4_0, k6_b4_1, g6_b4_1, k6_b5_0, g6_b5_0, k6_b5_1, g6_b5_1, B6, z6⟩; exact ⟨k6_b3_0, g6_b3_0, k6_b3_1, g6_b3_1, k6_b4_0, g6_b4_0, k6_b4_1, g6_b4_1, k6_b5_0, g6_b5_0, k6_b5_1, g6_b5_1⟩
    (try clear B5)
    (try clear z5)
    (try clear k5_b3_0)
    (try clear g5_b3_0)
    (try clear k5_b3_1)
    (try clear g5_b3_1)
    (try clear k5_b4_0)
    (try clear g5_b4_0)
    (try clear k5_b4_1)
    (try clear g5_b4_1)
    (try clear k5_b5_0)
    (try clear g5_b5_0)
    (try clear k5_b5_1)
    (try clear g5_b5_1)
    (try clear q5_b3)
    (try clear x5_b3)
    (try clear y5_b3)
    (try clear q5_b4)
    (try clear x5_b4)
    (try clear y5_b4)
    (try clear q5_b5)
    (try clear x5_b5)
    (try clear y5_b5)
    rintro w6 ⟨k6_b3_0, g6_b3_0, k6_b3_1, g6_b3_1, k6_b4_0, g6_b4_0, k6_b4_1, g6_b4_1, k6_b5_0, g6_b5_0, k6_b5_1, g6_b5_1, B6, z6⟩ gg
    simp only [List.take_succ_cons, List.take_zero, List.drop_succ_cons, List.drop_zero, Obs, ob, Sp.get, Sp.news, Act.put, List.setIfInBounds_toArray, List.set_cons_zero, List.set_cons_succ, List.nil_append, List.cons_append, List.append_nil]
    refine ⟨⟨rfl, ?_⟩, ⟨rfl, ?_⟩, ⟨rfl, ?_⟩, ⟨rfl, ?_, ?_⟩, ⟨rfl, ?_⟩, ⟨rfl, ?_⟩, ⟨rfl, ?_⟩, ⟨rfl, ?_⟩, ⟨rfl, ?_⟩, ⟨rfl, ?_, ?_⟩, ⟨rfl, ?_⟩, ⟨rfl, ?_⟩, ⟨rfl, ?_⟩, ⟨rfl, ?_⟩, ⟨rfl, ?_⟩, ⟨rfl, ?_⟩, ⟨rfl, ?_, ?_⟩, ⟨rfl, ?_⟩, ⟨rfl, ?_⟩, ⟨rfl, ?_⟩, ⟨rfl, ?_, ?_⟩, ⟨rfl, ?_⟩, ⟨rfl, ?_⟩, ⟨rfl, ?_⟩, ⟨rfl, ?_⟩, ⟨rfl, ?_⟩, ⟨rfl, ?_⟩, ⟨rfl, ?_, ?_⟩, ⟨rfl, ?_⟩, ⟨rfl, ?_⟩, ⟨rfl, ?_⟩, ⟨rfl, ?_⟩, ⟨rfl, ?_⟩, ?_⟩
    · clear k6_b3_0 g6_b3_0 k6_b3_1 g6_b3_1 k6_b4_0 g6_b4_0 k6_b4_1 g6_b4_1 k6_b5_0 g6_b5_0 k6_b5_1 g6_b5_1 B6 z6; rintro w' ⟨h0, h1, h2, h3, h4, h5, h6, h7, h8, h9, h10, h11⟩; go_simp; try exact IntWalk.i64_in _ (by omega)
    · clear k6_b3_0 g6_b3_0 k6_b3_1 g6_b3_1 k6_b4_0 g6_b4_0 k6_b4_1 g6_b4_1 k6_b5_0 g6_b5_0 k6_b5_1 g6_b5_1 B6 z6; rintro w' ⟨h0, h1, h2, h3, h4, h5, h6, h7, h8, h9, h10, h11⟩; go_simp; try exact IntWalk.i64_in _ (by omega)
    · clear k6_b3_0 g6_b3_0 k6_b3_1 g6_b3_1 k6_b4_0 g6_b4_0 k6_b4_1 g6_b4_1 k6_b5_0 g6_b5_0 k6_b5_1 g6_b5_1 B6 z6; rintro w' ⟨h0, h1, h2, h3, h4, h5, h6, h7, h8, h9, h10, h11⟩; go_simp; try exact IntWalk.i64_in _ (by omega)
    · clear k6_b3_0 g6_b3_0 k6_b3_1 g6_b3_1 k6_b4_0 g6_b4_0 k6_b4_1 g6_b4_1 k6_b5_0 g6_b5_0 k6_b5_1 g6_b5_1 B6 z6; rintro w' ⟨h0, h1, h2, h3, h4, h5, h6, h7, h8, h9, h10, h11⟩; go_simp
    · clear k6_b3_0 g6_b3_0 k6_b3_1 g6_b3_1 k6_b4_0 g6_b4_0 k6_b4_1 g6_b4_1 k6_b5_0 g6_b5_0 k6_b5_1 g6_b5_1 B6 z6; rintro w' ⟨h0, h1, h2, h3, h4, h5, h6, h7, h8, h9, h10, h11⟩; exact d1 _
    · clear k6_b3_0 g6_b3_0 k6_b3_1 g6_b3_1 k6_b4_0 g6_b4_0 k6_b4_1 g6_b4_1 k6_b5_0 g6_b5_0 k6_b5_1 g6_b5_1 B6 z6; rintro w' ⟨h0, h1, h2, h3, h4, h5, h6, h7, h8, h9, h10, h11⟩; go_simp; try exact IntWalk.i64_in _ (by omega)
    · clear k6_b3_0 g6_b3_0 k6_b3_1 g6_b3_1 k6_b4_0 g6_b4_0 k6_b4_1 g6_b4_1 k6_b5_0 g6_b5_0 k6_b5_1 g6_b5_1 B6 z6; rintro w' ⟨h0, h1, h2, h3, h4, h5, h6, h7, h8, h9, h10, h11⟩; go_simp; try exact IntWalk.i64_in _ (by omega)
    · clear k6_b3_0 g6_b3_0 k6_b3_1 g6_b3_1 k6_b4_0 g6_b4_0 k6_b4_1 g6_b4_1 k6_b5_0 g6_b5_0 k6_b5_1 g6_b5_1 B6 z6; rintro w' ⟨h0, h1, h2, h3, h4, h5, h6, h7, h8, h9, h10, h11⟩; go_simp; try exact IntWalk.i64_in _ (by omega)
    · clear k6_b3_0 g6_b3_0 k6_b3_1 g6_b3_1 k6_b4_0 g6_b4_0 k6_b4_1 g6_b4_1 k6_b5_0 g6_b5_0 k6_b5_1 g6_b5_1 B6 z6; rintro w' ⟨h0, h1, h2, h3, h4, h5, h6, h7, h8, h9, h10, h11⟩; go_simp; try exact IntWalk.i64_in _ (by omega)
    · clear k6_b3_0 g6_b3_0 k6_b3_1 g6_b3_1 k6_b4_0 g6_b4_0 k6_b4_1 g6_b4_1 k6_b5_0 g6_b5_0 k6_b5_1 g6_b5_1 B6 z6; rintro w' ⟨h0, h1, h2, h3, h4, h5, h6, h7, h8, h9, h10, h11⟩; go_simp; try exact IntWalk.i64_in _ (by omega)
    · clear k6_b3_0 g6_b3_0 k6_b3_1 g6_b3_1 k6_b4_0 g6_b4_0 k6_b4_1 g6_b4_1 k6_b5_0 g6_b5_0 k6_b5_1 g6_b5_1 B6 z6; rintro w' ⟨h0, h1, h2, h3, h4, h5, h6, h7, h8, h9, h10, h11⟩; go_simp
    · clear k6_b3_0 g6_b3_0 k6_b3_1 g6_b3_1 k6_b4_0 g6_b4_0 k6_b4_1 g6_b4_1 k6_b5_0 g6_b5_0 k6_b5_1 g6_b5_1 B6 z6; rintro w' ⟨h0, h1, h2, h3, h4, h5, h6, h7, h8, h9, h10, h11⟩; exact d2 _
    · clear k6_b3_0 g6_b3_0 k6_b3_1 g6_b3_1 k6_b4_0 g6_b4_0 k6_b4_1 g6_b4_1 k6_b5_0 g6_b5_0 k6_b5_1 g6_b5_1 B6 z6; rintro w' ⟨h0, h1, h2, h3, h4, h5, h6, h7, h8, h9, h10, h11⟩; go_simp; try exact IntWalk.i64_in _ (by omega)
    · clear k6_b3_0 g6_b3_0 k6_b3_1 g6_b3_1 k6_b4_0 g6_b4_0 k6_b4_1 g6_b4_1 k6_b5_0 g6_b5_0 k6_b5_1 g6_b5_1 B6 z6; rintro w' ⟨h0, h1, h2, h3, h4, h5, h6, h7, h8, h9, h10, h11⟩; go_simp; try exact IntWalk.i64_in _ (by omega)
    · clear k6_b3_0 g6_b3_0 k6_b3_1 g6_b3_1 k6_b4_0 g6_b4_0 k6_b4_1 g6_b4_1 k6_b5_0 g6_b5_0 k6_b5_1 g6_b5_1 B6 z6; rintro w' ⟨h0, h1, h2, h3, h4, h5, h6, h7, h8, h9, h10, h11⟩; go_simp; try exact IntWalk.i64_in _ (by omega)
    · clear k6_b3_0 g6_b3_0 k6_b3_1 g6_b3_1 k6_b4_0 g6_b4_0 k6_b4_1 g6_b4_1 k6_b5_0 g6_b5_0 k6_b5_1 g6_b5_1 B6 z6; rintro w' ⟨h0, h1, h2, h3, h4, h5, h6, h7, h8, h9, h10, h11⟩; go_simp; try exact IntWalk.i64_in _ (by omega)
    · clear k6_b3_0 g6_b3_0 k6_b3_1 g6_b3_1 k6_b4_0 g6_b4_0 k6_b4_1 g6_b4_1 k6_b5_0 g6_b5_0 k6_b5_1 g6_b5_1 B6 z6; rintro w' ⟨h0, h1, h2, h3, h4, h5, h6, h7, h8, h9, h10, h11⟩; go_simp; try exact IntWalk.i64_in _ (by omega)
    · clear k6_b3_0 g6_b3_0 k6_b3_1 g6_b3_1 k6_b4_0 g6_b4_0 k6_b4_1 g6_b4_1 k6_b5_0 g6_b5_0 k6_b5_1 g6_b5_1 B6 z6; rintro w' ⟨h0, h1, h2, h3, h4, h5, h6, h7, h8, h9, h10, h11⟩; go_simp; try exact IntWalk.i64_in _ (by omega)
    · clear k6_b3_0 g6_b3_0 k6_b3_1 g6_b3_1 k6_b4_0 g6_b4_0 k6_b4_1 g6_b4_1 k6_b5_0 g6_b5_0 k6_b5_1 g6_b5_1 B6 z6; rintro w' ⟨h0, h1, h2, h3, h4, h5, h6, h7, h8, h9, h10, h11⟩; go_simp
    · clear k6_b3_0 g6_b3_0 k6_b3_1 g6_b3_1 k6_b4_0 g6_b4_0 k6_b4_1 g6_b4_1 k6_b5_0 g6_b5_0 k6_b5_1 g6_b5_1 B6 z6; rintro w' ⟨h0, h1, h2, h3, h4, h5, h6, h7, h8, h9, h10, h11⟩; exact d3 _
    · clear k6_b3_0 g6_b3_0 k6_b3_1 g6_b3_1 k6_b4_0 g6_b4_0 k6_b4_1 g6_b4_1 k6_b5_0 g6_b5_0 k6_b5_1 g6_b5_1 B6 z6; rintro w' ⟨h0, h1, h2, h3, h4, h5, h6, h7, h8, h9, h10, h11⟩; go_simp; try exact IntWalk.i64_in _ (by omega)
    · clear k6_b3_0 g6_b3_0 k6_b3_1 g6_b3_1 k6_b4_0 g6_b4_0 k6_b4_1 g6_b4_1 k6_b5_0 g6_b5_0 k6_b5_1 g6_b5_1 B6 z6; rintro w' ⟨h0, h1, h2, h3, h4, h5, h6, h7, h8, h9, h10, h11⟩; go_simp; try exact IntWalk.i64_in _ (by omega)
    · clear k6_b3_0 g6_b3_0 k6_b3_1 g6_b3_1 k6_b4_0 g6_b4_0 k6_b4_1 g6_b4_1 k6_b5_0 g6_b5_0 k6_b5_1 g6_b5_1 B6 z6; rintro w' ⟨h0, h1, h2, h3, h4, h5, h6, h7, h8, h9, h10, h11⟩; go_simp; try exact IntWalk.i64_in _ (by omega)
    · clear k6_b3_0 g6_b3_0 k6_b3_1 g6_b3_1 k6_b4_0 g6_b4_0 k6_b4_1 g6_b4_1 k6_b5_0 g6_b5_0 k6_b5_1 g6_b5_1 B6 z6; rintro w' ⟨h0, h1, h2, h3, h4, h5, h6, h7, h8, h9, h10, h11⟩; go_simp
    · clear k6_b3_0 g6_b3_0 k6_b3_1 g6_b3_1 k6_b4_0 g6_b4_0 k6_b4_1 g6_b4_1 k6_b5_0 g6_b5_0 k6_b5_1 g6_b5_1 B6 z6; rintro w' ⟨h0, h1, h2, h3, h4, h5, h6, h7, h8, h9, h10, h11⟩; exact d4 _
    · clear k6_b3_0 g6_b3_0 k6_b3_1 g6_b3_1 k6_b4_0 g6_b4_0 k6_b4_1 g6_b4_1 k6_b5_0 g6_b5_0 k6_b5_1 g6_b5_1 B6 z6; rintro w' ⟨h0, h1, h2, h3, h4, h5, h6, h7, h8, h9, h10, h11⟩; go_simp; try exact IntWalk.i64_in _ (by omega)
    · clear k6_b3_0 g6_b3_0 k6_b3_1 g6_b3_1 k6_b4_0 g6_b4_0 k6_b4_1 g6_b4_1 k6_b5_0 g6_b5_0 k6_b5_1 g6_b5_1 B6 z6; rintro w' ⟨h0, h1, h2, h3, h4, h5, h6, h7, h8, h9, h10, h11⟩; go_simp; try exact IntWalk.i64_in _ (by omega)
    · clear k6_b3_0 g6_b3_0 k6_b3_1 g6_b3_1 k6_b4_0 g6_b4_0 k6_b4_1 g6_b4_1 k6_b5_0 g6_b5_0 k6_b5_1 g6_b5_1 B6 z6; rintro w' ⟨h0, h1, h2, h3, h4, h5, h6, h7, h8, h9, h10, h11⟩; go_simp; try exact IntWalk.i64_in _ (by omega)
    · clear k6_b3_0 g6_b3_0 k6_b3_1 g6_b3_1 k6_b4_0 g6_b4_0 k6_b4_1 g6_b4_1 k6_b5_0 g6_b5_0 k6_b5_1 g6_b5_1 B6 z6; rintro w' ⟨h0, h1, h2, h3, h4, h5, h6, h7, h8, h9, h10, h11⟩; go_simp; try exact IntWalk.i64_in _ (by omega)
    · clear k6_b3_0 g6_b3_0 k6_b3_1 g6_b3_1 k6_b4_0 g6_b4_0 k6_b4_1 g6_b4_1 k6_b5_0 g6_b5_0 k6_b5_1 g6_b5_1 B6 z6; rintro w' ⟨h0, h1, h2, h3, h4, h5, h6, h7, h8, h9, h10, h11⟩; go_simp; try exact IntWalk.i64_in _ (by omega)
    · clear k6_b3_0 g6_b3_0 k6_b3_1 g6_b3_1 k6_b4_0 g6_b4_0 k6_b4_1 g6_b4_1 k6_b5_0 g6_b5_0 k6_b5_1 g6_b5_1 B6 z6; rintro w' ⟨h0, h1, h2, h3, h4, h5, h6, h7, h8, h9, h10, h11⟩; go_simp; try exact IntWalk.i64_in _ (by omega)
    · clear k6_b3_0 g6_b3_0 k6_b3_1 g6_b3_1 k6_b4_0 g6_b4_0 k6_b4_1 g6_b4_1 k6_b5_0 g6_b5_0 k6_b5_1 g6_b5_1 B6 z6; rintro w' ⟨h0, h1, h2, h3, h4, h5, h6, h7, h8, h9, h10, h11⟩; go_simp
    · clear k6_b3_0 g6_b3_0 k6_b3_1 g6_b3_1 k6_b4_0 g6_b4_0 k6_b4_1 g6_b4_1 k6_b5_0 g6_b5_0 k6_b5_1 g6_b5_1 B6 z6; rintro w' ⟨h0, h1, h2, h3, h4, h5, h6, h7, h8, h9, h10, h11⟩; exact d3 _
    · clear k6_b3_0 g6_b3_0 k6_b3_1 g6_b3_1 k6_b4_0 g6_b4_0 k6_b4_1 g6_b4_1 k6_b5_0 g6_b5_0 k6_b5_1 g6_b5_1 B6 z6; rintro w' ⟨h0, h1, h2, h3, h4, h5, h6, h7, h8, h9, h10, h11⟩; go_simp; try exact IntWalk.i64_in _ (by omega)
    · clear k6_b3_0 g6_b3_0 k6_b3_1 g6_b3_1 k6_b4_0 g6_b4_0 k6_b4_1 g6_b4_1 k6_b5_0 g6_b5_0 k6_b5_1 g6_b5_1 B6 z6; rintro w' ⟨h0, h1, h2, h3, h4, h5, h6, h7, h8, h9, h10, h11⟩; go_simp; try exact IntWalk.i64_in _ (by omega)
    · clear k6_b3_0 g6_b3_0 k6_b3_1 g6_b3_1 k6_b4_0 g6_b4_0 k6_b4_1 g6_b4_1 k6_b5_0 g6_b5_0 k6_b5_1 g6_b5_1 B6 z6; rintro w' ⟨h0, h1, h2, h3, h4, h5, h6, h7, h8, h9, h10, h11⟩; go_simp; try exact IntWalk.i64_in _ (by omega)
    · clear k6_b3_0 g6_b3_0 k6_b3_1 g6_b3_1 k6_b4_0 g6_b4_0 k6_b4_1 g6_b4_1 k6_b5_0 g6_b5_0 k6_b5_1 g6_b5_1 B6 z6; rintro w' ⟨h0, h1, h2, h3, h4, h5, h6, h7, h8, h9, h10, h11⟩; go_simp; try exact IntWalk.i64_in _ (by omega)
    · clear k6_b3_0 g6_b3_0 k6_b3_1 g6_b3_1 k6_b4_0 g6_b4_0 k6_b4_1 g6_b4_1 k6_b5_0 g6_b5_0 k6_b5_1 g6_b5_1 B6 z6; rintro w' ⟨h0, h1, h2, h3, h4, h5, h6, h7, h8, h9, h10, h11⟩; go_simp; try exact IntWalk.i64_in _ (by omega)
    rintro w7 ⟨h0, h1, h2, h3, h4, h5, h6, h7, h8, h9, h10, h11⟩ hb7 hF
    clear hF
    have k7_b3_0 := bcs hb7 k6_b3_0
    have g7_b3_0 := bfs hb7 k6_b3_0 g6_b3_0
    have k7_b3_1 := bcs hb7 k6_b3_1
    have g7_b3_1 := bfs hb7 k6_b3_1 g6_b3_1
    have k7_b4_0 := bcs hb7 k6_b4_0
    have g7_b4_0 := bfs hb7 k6_b4_0 g6_b4_0
    have k7_b4_1 := bcs hb7 k6_b4_1
    have g7_b4_1 := bfs hb7 k6_b4_1 g6_b4_1
    have k7_b5_0 := bcs hb7 k6_b5_0
    have g7_b5_0 := bfs hb7 k6_b5_0 g6_b5_0
    have k7_b5_1 := bcs hb7 k6_b5_1
    have g7_b5_1 := bfs hb7 k6_b5_1 g6_b5_1
    clear h0 h1 h2 h3 h4 h5 h6 h7 h8 h9 h10 h11
    have B7 := bel_step B6 hb7
    have z7 := Nat.le_trans z6 hb7.size
    clear hb7
    (try clear B6)
    (try clear z6)
    (try clear k6_b3_0)
    (try clear g6_b3_0)
    (try clear k6_b3_1)
    (try clear g6_b3_1)
    (try clear k6_b4_0)
    (try clear g6_b4_0)
    (try clear k6_b4_1)
    (try clear g6_b4_1)
    (try clear k6_b5_0)
    (try clear g6_b5_0)
    (try clear k6_b5_1)
    (try clear g6_b5_1)
    (try clear q6_b3)
    (try clear x6_b3)
    (try clear y6_b3)
    (try clear q6_b4)
    (try clear x6_b4)
    (try clear y6_b4)
    (try clear q6_b5)
    (try clear x6_b5)
    (try clear y6_b5)
    have q7_b3 : w.heap.size < w7.heap.size := qlt k7_b3_0
    have x7_b3 : ¬ w.heap.size = w7.heap.size := qne k7_b3_0
    have y7_b3 : ¬ w7.heap.size = w.heap.size := fun h => qne k7_b3_0 h.symm
    have q7_b4 : w.heap.size + 1 < w7.heap.size := qlt k7_b4_0
    have x7_b4 : ¬ w.heap.size + 1 = w7.heap.size := qne k7_b4_0
    have y7_b4 : ¬ w7.heap.size = w.heap.size + 1 := fun h => qne k7_b4_0 h.symm
    have q7_b5 : w.heap.size + 1 + 1 < w7.heap.size := qlt k7_b5_0
    have x7_b5 : ¬ w.heap.size + 1 + 1 = w7.heap.size := qne k7_b5_0
    have y7_b5 : ¬ w7.heap.size = w.heap.size + 1 + 1 := fun h => qne k7_b5_0 h.symm
    go_wp2
    refine wp_region_ord (fun w' => w'.cell? ⟨w.heap.size, 0, none⟩ = some (.int .i64 x) ∧ w'.frozen? ⟨w.heap.size, 0, none⟩ = false ∧ w'.cell? ⟨w.heap.size, 1, none⟩ = some (.int .i64 y) ∧ w'.frozen? ⟨w.heap.size, 1, none⟩ = false ∧ w'.cell? ⟨w.heap.size + 1, 0, none⟩ = some (.int .i64 u) ∧ w'.frozen? ⟨w.heap.size + 1, 0, none⟩ = false ∧ w'.cell? ⟨w.heap.size + 1, 1, none⟩ = some (.int .i64 v) ∧ w'.frozen? ⟨w.heap.size + 1, 1, none⟩ = false ∧ w'.cell? ⟨w.heap.size + 1 + 1, 0, none⟩ = some (.int .i64 s) ∧ w'.frozen? ⟨w.heap.size + 1 + 1, 0, none⟩ = false ∧ w'.cell? ⟨w.heap.size + 1 + 1, 1, none⟩ = some (.int .i64 t) ∧ w'.frozen? ⟨w.heap.size + 1 + 1, 1, none⟩ = false) (fun W => W.cell? ⟨w.heap.size, 0, none⟩ = some (.int .i64 x) ∧ W.frozen? ⟨w.heap.size, 0, none⟩ = false ∧ W.cell? ⟨w.heap.size, 1, none⟩ = some (.int .i64 y) ∧ W.frozen? ⟨w.heap.size, 1, none⟩ = false ∧ W.cell? ⟨w.heap.size + 1, 0, none⟩ = some (.int .i64 u) ∧ W.frozen? ⟨w.heap.size + 1, 0, none⟩ = false ∧ W.cell? ⟨w.heap.size + 1, 1, none⟩ = some (.int .i64 v) ∧ W.frozen? ⟨w.heap.size + 1, 1, none⟩ = false ∧ W.cell? ⟨w.heap.size + 1 + 1, 0, none⟩ = some (.int .i64 s) ∧ W.frozen? ⟨w.heap.size + 1 + 1, 0, none⟩ = false ∧ W.cell? ⟨w.heap.size + 1 + 1, 1, none⟩ = some (.int .i64 t) ∧ W.frozen? ⟨w.heap.size + 1 + 1, 1, none⟩ = false ∧ Below w.heap.size w W ∧ w.heap.size + 1 + 1 + 1 ≤ W.heap.size) 9 [.val (.agg #[.int .i64 x, .int .i64 y]), .call 32 #[.agg #[.int .i64 x, .int .i64 y]] (.agg #[.int .i64 X, .int .i64 Y]), .val (.agg #[.int .i64 u, .int .i64 v]), .call 32 #[.agg #[.int .i64 u, .int .i64 v]] (.agg #[.int .i64 U, .int .i64 Z]), .val (.agg #[.int .i64 s, .int .i64 t]), .call 32 #[.agg #[.int .i64 s, .int .i64 t]] (.agg #[.int .i64 S, .int .i64 T]), .fresh (.cells #[.int .i64 0, .int .i64 0] 23), .fresh (.cells #[.int .i64 0, .int .i64 0] 23), .fresh (.cells #[.int .i64 0, .int .i64 0] 23)] (by kernel_rfl) (by kernel_rfl) (by rintro w1 w2 ⟨h0, h1, h2, h3, h4, h5, h6, h7, h8, h9, h10, h11⟩ hb; exact ⟨bcs hb h0, bfs hb h0 h1, bcs hb h2, bfs hb h2 h3, bcs hb h4, bfs hb h4 h5, bcs hb h6, bfs hb h6 h7, bcs hb h8, bfs hb h8 h9, bcs hb h10, bfs hb h10 h11⟩) ⟨by first | with_reducible assumption | go_simp, by first | with_reducible assumption | go_simp, by first | with_reducible assumption | go_simp, by first | with_reducible assumption | go_simp, by first | with_reducible assumption | go_simp, by first | with_reducible assumption | go_simp, by first | with_reducible assumption | go_simp, by first | with_reducible assumption | go_simp, by first | with_reducible assumption | go_simp, by first | with_reducible assumption | go_simp, by first | with_reducible assumption | go_simp, by first | with_reducible assumption | go_simp, by repeat (first | with_reducible exact Below.refl _ _ | with_reducible exact B7 | with_reducible apply below_drewN | with_reducible apply Below.drew | (with_reducible refine Below.alloc ?_ (by first | (simp; done) | (simp; omega) | omega) _) | (with_reducible refine Below.setCell ?_ (by first | (simp; done) | (simp; omega) | omega) _)), by first | with_reducible assumption | (simp; done) | (simp; omega)⟩ ?_ ?_
    · rintro W ⟨k8_b3_0, g8_b3_0, k8_b3_1, g8_b3_1, k8_b4_0, g8_b4_0, k8_b4_1, g8_b4_1, k8_b5_0, g8_b5_0, k8_b5_1, g8_b5_1, B8, z8⟩; exact ⟨k8_b3_0, g8_b3_0, k8_b3_1, g8_b3_1, k8_b4_0, g8_b4_0, k8_b4_1, g8_b4_1, k8_b5_0, g8_b5_0, k8_b5_1, g8_b5_1⟩
    (try clear B7)
    (try clear z7)
    (try clear k7_b3_0)
    (try clear g7_b3_0)
    (try clear k7_b3_1)
    (try clear g7_b3_1)
    (try clear k7_b4_0)
    (try clear g7_b4_0)
    (try clear k7_b4_1)
    (try clear g7_b4_1)
    (try clear k7_b5_0)
    (try clear g7_b5_0)
    (try clear k7_b5_1)
    (try clear g7_b5_1)
    (try clear q7_b3)
    (try clear x7_b3)
    (try clear y7_b3)
    (try clear q7_b4)
    (try clear x7_b4)
    (try clear y7_b4)
    (try clear q7_b5)
    (try clear x7_b5)
    (try clear y7_b5)
    rintro w8 ⟨k8_b3_0, g8_b3_0, k8_b3_1, g8_b3_1, k8_b4_0, g8_b4_0, k8_b4_1, g8_b4_1, k8_b5_0, g8_b5_0, k8_b5_1, g8_b5_1, B8, z8⟩ gg
    simp only [List.take_succ_cons, List.take_zero, List.drop_succ_cons, List.drop_zero, Obs, ob, Sp.get, Sp.news, Act.put, List.setIfInBounds_toArray, List.set_cons_zero, List.set_cons_succ, List.nil_append, List.cons_append, List.append_nil]
    refine ⟨⟨rfl, ?_⟩, ⟨rfl, ?_, ?_⟩, ⟨rfl, ?_⟩, ⟨rfl, ?_, ?_⟩, ⟨rfl, ?_⟩, ⟨rfl, ?_, ?_⟩, ⟨rfl, ?_⟩, ⟨rfl, ?_⟩, ⟨rfl, ?_⟩, ?_⟩
    · clear k8_b3_0 g8_b3_0 k8_b3_1 g8_b3_1 k8_b4_0 g8_b4_0 k8_b4_1 g8_b4_1 k8_b5_0 g8_b5_0 k8_b5_1 g8_b5_1 B8 z8; rintro w' ⟨h0, h1, h2, h3, h4, h5, h6, h7, h8, h9, h10, h11⟩; go_simp; try exact IntWalk.i64_in _ (by omega)
    · clear k8_b3_0 g8_b3_0 k8_b3_1 g8_b3_1 k8_b4_0 g8_b4_0 k8_b4_1 g8_b4_1 k8_b5_0 g8_b5_0 k8_b5_1 g8_b5_1 B8 z8; rintro w' ⟨h0, h1, h2, h3, h4, h5, h6, h7, h8, h9, h10, h11⟩; go_simp
    · clear k8_b3_0 g8_b3_0 k8_b3_1 g8_b3_1 k8_b4_0 g8_b4_0 k8_b4_1 g8_b4_1 k8_b5_0 g8_b5_0 k8_b5_1 g8_b5_1 B8 z8; rintro w' ⟨h0, h1, h2, h3, h4, h5, h6, h7, h8, h9, h10, h11⟩; exact e1 _
    · clear k8_b3_0 g8_b3_0 k8_b3_1 g8_b3_1 k8_b4_0 g8_b4_0 k8_b4_1 g8_b4_1 k8_b5_0 g8_b5_0 k8_b5_1 g8_b5_1 B8 z8; rintro w' ⟨h0, h1, h2, h3, h4, h5, h6, h7, h8, h9, h10, h11⟩; go_simp; try exact IntWalk.i64_in _ (by omega)
    · clear k8_b3_0 g8_b3_0 k8_b3_1 g8_b3_1 k8_b4_0 g8_b4_0 k8_b4_1 g8_b4_1 k8_b5_0 g8_b5_0 k8_b5_1 g8_b5_1 B8 z8; rintro w' ⟨h0, h1, h2, h3, h4, h5, h6, h7, h8, h9, h10, h11⟩; go_simp
    · clear k8_b3_0 g8_b3_0 k8_b3_1 g8_b3_1 k8_b4_0 g8_b4_0 k8_b4_1 g8_b4_1 k8_b5_0 g8_b5_0 k8_b5_1 g8_b5_1 B8 z8; rintro w' ⟨h0, h1, h2, h3, h4, h5, h6, h7, h8, h9, h10, h11⟩; exact e2 _
    · clear k8_b3_0 g8_b3_0 k8_b3_1 g8_b3_1 k8_b4_0 g8_b4_0 k8_b4_1 g8_b4_1 k8_b5_0 g8_b5_0 k8_b5_1 g8_b5_1 B8 z8; rintro w' ⟨h0, h1, h2, h3, h4, h5, h6, h7, h8, h9, h10, h11⟩; go_simp; try exact IntWalk.i64_in _ (by omega)
    · clear k8_b3_0 g8_b3_0 k8_b3_1 g8_b3_1 k8_b4_0 g8_b4_0 k8_b4_1 g8_b4_1 k8_b5_0 g8_b5_0 k8_b5_1 g8_b5_1 B8 z8; rintro w' ⟨h0, h1, h2, h3, h4, h5, h6, h7, h8, h9, h10, h11⟩; go_simp
    · clear k8_b3_0 g8_b3_0 k8_b3_1 g8_b3_1 k8_b4_0 g8_b4_0 k8_b4_1 g8_b4_1 k8_b5_0 g8_b5_0 k8_b5_1 g8_b5_1 B8 z8; rintro w' ⟨h0, h1, h2, h3, h4, h5, h6, h7, h8, h9, h10, h11⟩; exact e3 _
    · clear k8_b3_0 g8_b3_0 k8_b3_1 g8_b3_1 k8_b4_0 g8_b4_0 k8_b4_1 g8_b4_1 k8_b5_0 g8_b5_0 k8_b5_1 g8_b5_1 B8 z8; rintro w' ⟨h0, h1, h2, h3, h4, h5, h6, h7, h8, h9, h10, h11⟩; go_simp
    · clear k8_b3_0 g8_b3_0 k8_b3_1 g8_b3_1 k8_b4_0 g8_b4_0 k8_b4_1 g8_b4_1 k8_b5_0 g8_b5_0 k8_b5_1 g8_b5_1 B8 z8; rintro w' ⟨h0, h1, h2, h3, h4, h5, h6, h7, h8, h9, h10, h11⟩; go_simp
    · clear k8_b3_0 g8_b3_0 k8_b3_1 g8_b3_1 k8_b4_0 g8_b4_0 k8_b4_1 g8_b4_1 k8_b5_0 g8_b5_0 k8_b5_1 g8_b5_1 B8 z8; rintro w' ⟨h0, h1, h2, h3, h4, h5, h6, h7, h8, h9, h10, h11⟩; go_simp
    rintro w9 ⟨h0, h1, h2, h3, h4, h5, h6, h7, h8, h9, h10, h11⟩ hb9 hF
    have lg8 : w8.heap.size ≤ gg 6 := hF.1.1
    have ug8 : gg 6 < w9.heap.size := hF.1.2.1
    have pg8 : w9.heap[gg 6]? = some (.cells #[.int .i64 0, .int .i64 0] 23) := hF.1.2.2
    have ng8_g9 : ¬ gg 6 = gg 7 := hF.2.1 (7, .cells #[.int .i64 0, .int .i64 0] 23) (by simp)
    have ng8_g10 : ¬ gg 6 = gg 8 := hF.2.1 (8, .cells #[.int .i64 0, .int .i64 0] 23) (by simp)
    have lg9 : w8.heap.size ≤ gg 7 := hF.2.2.1.1
    have ug9 : gg 7 < w9.heap.size := hF.2.2.1.2.1
    have pg9 : w9.heap[gg 7]? = some (.cells #[.int .i64 0, .int .i64 0] 23) := hF.2.2.1.2.2
    have ng9_g10 : ¬ gg 7 = gg 8 := hF.2.2.2.1 (8, .cells #[.int .i64 0, .int .i64 0] 23) (by simp)
    have lg10 : w8.heap.size ≤ gg 8 := hF.2.2.2.2.1.1
    have ug10 : gg 8 < w9.heap.size := hF.2.2.2.2.1.2.1
    have pg10 : w9.heap[gg 8]? = some (.cells #[.int .i64 0, .int .i64 0] 23) := hF.2.2.2.2.1.2.2
    clear hF
    obtain ⟨g8, eg8⟩ : ∃ x, gg 6 = x := ⟨_, rfl⟩
    rw [eg8] at lg8 ug8 pg8 ng8_g9 ng8_g10 ⊢
    clear eg8
    obtain ⟨g9, eg9⟩ : ∃ x, gg 7 = x := ⟨_, rfl⟩
    rw [eg9] at lg9 ug9 pg9 ng8_g9 ng9_g10 ⊢
    clear eg9
    obtain ⟨g10, eg10⟩ : ∃ x, gg 8 = x := ⟨_, rfl⟩
    rw [eg10] at lg10 ug10 pg10 ng8_g10 ng9_g10 ⊢
    clear eg10
    clear gg
    have k9_b3_0 := bcs hb9 k8_b3_0
    have g9_b3_0 := bfs hb9 k8_b3_0 g8_b3_0
    have k9_b3_1 := bcs hb9 k8_b3_1
    have g9_b3_1 := bfs hb9 k8_b3_1 g8_b3_1
    have k9_b4_0 := bcs hb9 k8_b4_0
    have g9_b4_0 := bfs hb9 k8_b4_0 g8_b4_0
    have k9_b4_1 := bcs hb9 k8_b4_1
    have g9_b4_1 := bfs hb9 k8_b4_1 g8_b4_1
    have k9_b5_0 := bcs hb9 k8_b5_0
    have g9_b5_0 := bfs hb9 k8_b5_0 g8_b5_0
    have k9_b5_1 := bcs hb9 k8_b5_1
    have g9_b5_1 := bfs hb9 k8_b5_1 g8_b5_1
    clear h0 h1 h2 h3 h4 h5 h6 h7 h8 h9 h10 h11
    have B9 := bel_step B8 hb9
    have z9 := Nat.le_trans z8 hb9.size
    have mg8 : w.heap.size ≤ g8 := by omega
    have ng8_b3 : ¬ g8 = w.heap.size := by omega
    have nb3_g8 : ¬ w.heap.size = g8 := by omega
    have ng8_b4 : ¬ g8 = w.heap.size + 1 := by omega
    have nb4_g8 : ¬ w.heap.size + 1 = g8 := by omega
    have ng8_b5 : ¬ g8 = w.heap.size + 1 + 1 := by omega
    have nb5_g8 : ¬ w.heap.size + 1 + 1 = g8 := by omega
    have k9_g8_0 : w9.cell? ⟨g8, 0, none⟩ = some (.int .i64 0) := cob pg8 0 rfl
    have g9_g8_0 : w9.frozen? ⟨g8, 0, none⟩ = false := fob pg8 0
    have k9_g8_1 : w9.cell? ⟨g8, 1, none⟩ = some (.int .i64 0) := cob pg8 1 rfl
    have g9_g8_1 : w9.frozen? ⟨g8, 1, none⟩ = false := fob pg8 1
    have mg9 : w.heap.size ≤ g9 := by omega
    have ng9_b3 : ¬ g9 = w.heap.size := by omega
    have nb3_g9 : ¬ w.heap.size = g9 := by omega
    have ng9_b4 : ¬ g9 = w.heap.size + 1 := by omega
    have nb4_g9 : ¬ w.heap.size + 1 = g9 := by omega
    have ng9_b5 : ¬ g9 = w.heap.size + 1 + 1 := by omega
    have nb5_g9 : ¬ w.heap.size + 1 + 1 = g9 := by omega
    have k9_g9_0 : w9.cell? ⟨g9, 0, none⟩ = some (.int .i64 0) := cob pg9 0 rfl
    have g9_g9_0 : w9.frozen? ⟨g9, 0, none⟩ = false := fob pg9 0
    have k9_g9_1 : w9.cell? ⟨g9, 1, none⟩ = some (.int .i64 0) := cob pg9 1 rfl
    have g9_g9_1 : w9.frozen? ⟨g9, 1, none⟩ = false := fob pg9 1
    have mg10 : w.heap.size ≤ g10 := by omega
    have ng10_b3 : ¬ g10 = w.heap.size := by omega
    have nb3_g10 : ¬ w.heap.size = g10 := by omega
    have ng10_b4 : ¬ g10 = w.heap.size + 1 := by omega
    have nb4_g10 : ¬ w.heap.size + 1 = g10 := by omega
    have ng10_b5 : ¬ g10 = w.heap.size + 1 + 1 := by omega
    have nb5_g10 : ¬ w.heap.size + 1 + 1 = g10 := by omega
    have k9_g10_0 : w9.cell? ⟨g10, 0, none⟩ = some (.int .i64 0) := cob pg10 0 rfl
    have g9_g10_0 : w9.frozen? ⟨g10, 0, none⟩ = false := fob pg10 0
    have k9_g10_1 : w9.cell? ⟨g10, 1, none⟩ = some (.int .i64 0) := cob pg10 1 rfl
    have g9_g10_1 : w9.frozen? ⟨g10, 1, none⟩ = false := fob pg10 1
    have ng9_g8 : ¬ g9 = g8 := fun h => ng8_g9 h.symm
    have ng10_g8 : ¬ g10 = g8 := fun h => ng8_g10 h.symm
    have ng10_g9 : ¬ g10 = g9 := fun h => ng9_g10 h.symm
    clear lg8 ug8 pg8
    clear lg9 ug9 pg9
    clear lg10 ug10 pg10
    clear hb9
    (try clear B8)
    (try clear z8)
    (try clear k8_b3_0)
    (try clear g8_b3_0)
    (try clear k8_b3_1)
    (try clear g8_b3_1)
    (try clear k8_b4_0)
    (try clear g8_b4_0)
    (try clear k8_b4_1)
    (try clear g8_b4_1)
    (try clear k8_b5_0)
    (try clear g8_b5_0)
    (try clear k8_b5_1)
    (try clear g8_b5_1)
    (try clear q8_b3)
    (try clear x8_b3)
    (try clear y8_b3)
    (try clear q8_b4)
    (try clear x8_b4)
    (try clear y8_b4)
    (try clear q8_b5)
    (try clear x8_b5)
    (try clear y8_b5)
    have q9_b3 : w.heap.size < w9.heap.size := qlt k9_b3_0
    have x9_b3 : ¬ w.heap.size = w9.heap.size := qne k9_b3_0
    have y9_b3 : ¬ w9.heap.size = w.heap.size := fun h => qne k9_b3_0 h.symm
    have q9_b4 : w.heap.size + 1 < w9.heap.size := qlt k9_b4_0
    have x9_b4 : ¬ w.heap.size + 1 = w9.heap.size := qne k9_b4_0
    have y9_b4 : ¬ w9.heap.size = w.heap.size + 1 := fun h => qne k9_b4_0 h.symm
    have q9_b5 : w.heap.size + 1 + 1 < w9.heap.size := qlt k9_b5_0
    have x9_b5 : ¬ w.heap.size + 1 + 1 = w9.heap.size := qne k9_b5_0
    have y9_b5 : ¬ w9.heap.size = w.heap.size + 1 + 1 := fun h => qne k9_b5_0 h.symm
    have q9_g8 : g8 < w9.heap.size := qlt k9_g8_0
    have x9_g8 : ¬ g8 = w9.heap.size := qne k9_g8_0
    have y9_g8 : ¬ w9.heap.size = g8 := fun h => qne k9_g8_0 h.symm
    have q9_g9 : g9 < w9.heap.size := qlt k9_g9_0
    have x9_g9 : ¬ g9 = w9.heap.size := qne k9_g9_0
    have y9_g9 : ¬ w9.heap.size = g9 := fun h => qne k9_g9_0 h.symm
    have q9_g10 : g10 < w9.heap.size := qlt k9_g10_0
    have x9_g10 : ¬ g10 = w9.heap.size := qne k9_g10_0
    have y9_g10 : ¬ w9.heap.size = g10 := fun h => qne k9_g10_0 h.symm
    go_wp2
    refine wp_region_ord (fun w' => w'.cell? ⟨w.heap.size, 0, none⟩ = some (.int .i64 x) ∧ w'.frozen? ⟨w.heap.size, 0, none⟩ = false ∧ w'.cell? ⟨w.heap.size, 1, none⟩ = some (.int .i64 y) ∧ w'.frozen? ⟨w.heap.size, 1, none⟩ = false ∧ w'.cell? ⟨w.heap.size + 1, 0, none⟩ = some (.int .i64 u) ∧ w'.frozen? ⟨w.heap.size + 1, 0, none⟩ = false ∧ w'.cell? ⟨w.heap.size + 1, 1, none⟩ = some (.int .i64 v) ∧ w'.frozen? ⟨w.heap.size + 1, 1, none⟩ = false ∧ w'.cell? ⟨w.heap.size + 1 + 1, 0, none⟩ = some (.int .i64 s) ∧ w'.frozen? ⟨w.heap.size + 1 + 1, 0, none⟩ = false ∧ w'.cell? ⟨w.heap.size + 1 + 1, 1, none⟩ = some (.int .i64 t) ∧ w'.frozen? ⟨w.heap.size + 1 + 1, 1, none⟩ = false ∧ w'.cell? ⟨g8, 0, none⟩ = some (.int .i64 X) ∧ w'.frozen? ⟨g8, 0, none⟩ = false ∧ w'.cell? ⟨g8, 1, none⟩ = some (.int .i64 Y) ∧ w'.frozen? ⟨g8, 1, none⟩ = false ∧ w'.cell? ⟨g9, 0, none⟩ = some (.int .i64 U) ∧ w'.frozen? ⟨g9, 0, none⟩ = false ∧ w'.cell? ⟨g9, 1, none⟩ = some (.int .i64 Z) ∧ w'.frozen? ⟨g9, 1, none⟩ = false ∧ w'.cell? ⟨g10, 0, none⟩ = some (.int .i64 S) ∧ w'.frozen? ⟨g10, 0, none⟩ = false ∧ w'.cell? ⟨g10, 1, none⟩ = some (.int .i64 T) ∧ w'.frozen? ⟨g10, 1, none⟩ = false) (fun W => W.cell? ⟨w.heap.size, 0, none⟩ = some (.int .i64 x) ∧ W.frozen? ⟨w.heap.size, 0, none⟩ = false ∧ W.cell? ⟨w.heap.size, 1, none⟩ = some (.int .i64 y) ∧ W.frozen? ⟨w.heap.size, 1, none⟩ = false ∧ W.cell? ⟨w.heap.size + 1, 0, none⟩ = some (.int .i64 u) ∧ W.frozen? ⟨w.heap.size + 1, 0, none⟩ = false ∧ W.cell? ⟨w.heap.size + 1, 1, none⟩ = some (.int .i64 v) ∧ W.frozen? ⟨w.heap.size + 1, 1, none⟩ = false ∧ W.cell? ⟨w.heap.size + 1 + 1, 0, none⟩ = some (.int .i64 s) ∧ W.frozen? ⟨w.heap.size + 1 + 1, 0, none⟩ = false ∧ W.cell? ⟨w.heap.size + 1 + 1, 1, none⟩ = some (.int .i64 t) ∧ W.frozen? ⟨w.heap.size + 1 + 1, 1, none⟩ = false ∧ W.cell? ⟨g8, 0, none⟩ = some (.int .i64 X) ∧ W.frozen? ⟨g8, 0, none⟩ = false ∧ W.cell? ⟨g8, 1, none⟩ = some (.int .i64 Y) ∧ W.frozen? ⟨g8, 1, none⟩ = false ∧ W.cell? ⟨g9, 0, none⟩ = some (.int .i64 U) ∧ W.frozen? ⟨g9, 0, none⟩ = false ∧ W.cell? ⟨g9, 1, none⟩ = some (.int .i64 Z) ∧ W.frozen? ⟨g9, 1, none⟩ = false ∧ W.cell? ⟨g10, 0, none⟩ = some (.int .i64 S) ∧ W.frozen? ⟨g10, 0, none⟩ = false ∧ W.cell? ⟨g10, 1, none⟩ = some (.int .i64 T) ∧ W.frozen? ⟨g10, 1, none⟩ = false ∧ Below w.heap.size w W ∧ w.heap.size + 1 + 1 + 1 ≤ W.heap.size) 33 [.val (.agg #[.int .i64 X, .int .i64 Y]), .val (.agg #[.int .i64 S, .int .i64 T]), .call 11 #[.agg #[.int .i64 X, .int .i64 Y], .agg #[.int .i64 S, .int .i64 T]] (.agg #[.int .i64 (X + S), .int .i64 (Y + T)]), .val (.agg #[.int .i64 U, .int .i64 Z]), .val (.agg #[.int .i64 S, .int .i64 T]), .call 11 #[.agg #[.int .i64 U, .int .i64 Z], .agg #[.int .i64 S, .int .i64 T]] (.agg #[.int .i64 (U + S), .int .i64 (Z + T)]), .val (.agg #[.int .i64 S, .int .i64 T]), .val (.agg #[.int .i64 S, .int .i64 T]), .call 11 #[.agg #[.int .i64 S, .int .i64 T], .agg #[.int .i64 S, .int .i64 T]] (.agg #[.int .i64 (S + S), .int .i64 (T + T)]), .call 26 #[.agg #[.int .i64 (X + S), .int .i64 (Y + T)], .agg #[.int .i64 (U + S), .int .i64 (Z + T)], .agg #[.int .i64 (S + S), .int .i64 (T + T)]] (.int .i64 M), .val (.agg #[.int .i64 X, .int .i64 Y]), .val (.agg #[.int .i64 U, .int .i64 Z]), .val (.agg #[.int .i64 S, .int .i64 T]), .call 26 #[.agg #[.int .i64 X, .int .i64 Y], .agg #[.int .i64 U, .int .i64 Z], .agg #[.int .i64 S, .int .i64 T]] (.int .i64 M), .val (.bool true), .val (.bool true), .val (.agg #[.int .i64 X, .int .i64 Y]), .call 15 #[.agg #[.int .i64 X, .int .i64 Y]] (.agg #[.int .i64 (-Y), .int .i64 X]), .val (.agg #[.int .i64 U, .int .i64 Z]), .call 15 #[.agg #[.int .i64 U, .int .i64 Z]] (.agg #[.int .i64 (-Z), .int .i64 U]), .val (.agg #[.int .i64 S, .int .i64 T]), .call 15 #[.agg #[.int .i64 S, .int .i64 T]] (.agg #[.int .i64 (-T), .int .i64 S]), .call 26 #[.agg #[.int .i64 (-Y), .int .i64 X], .agg #[.int .i64 (-Z), .int .i64 U], .agg #[.int .i64 (-T), .int .i64 S]] (.int .i64 M), .val (.agg #[.int .i64 X, .int .i64 Y]), .val (.agg #[.int .i64 U, .int .i64 Z]), .val (.agg #[.int .i64 S, .int .i64 T]), .call 26 #[.agg #[.int .i64 X, .int .i64 Y], .agg #[.int .i64 U, .int .i64 Z], .agg #[.int .i64 S, .int .i64 T]] (.int .i64 M), .val (.bool true), .val (.bool true), .val (.bool true), .call 25 #[] (.bool true), .val (.bool true), .val (.bool true)] (by kernel_rfl) (by kernel_rfl) (by rintro w1 w2 ⟨h0, h1, h2, h3, h4, h5, h6, h7, h8, h9, h10, h11, h12, h13, h14, h15, h16, h17, h18, h19, h20, h21, h22, h23⟩ hb; exact ⟨bcs hb h0, bfs hb h0 h1, bcs hb h2, bfs hb h2 h3, bcs hb h4, bfs hb h4 h5, bcs hb h6, bfs hb h6 h7, bcs hb h8, bfs hb h8 h9, bcs hb h10, bfs hb h10 h11, bcs hb h12, bfs hb h12 h13, bcs hb h14, bfs hb h14 h15, bcs hb h16, bfs hb h16 h17, bcs hb h18, bfs hb h18 h19, bcs hb h20, bfs hb h20 h21, bcs hb h22, bfs hb h22 h23⟩) ⟨by first | with_reducible assumption | go_simp, by first | with_reducible assumption | go_simp, by first | with_reducible assumption | go_simp, by first | with_reducible assumption | go_simp, by first | with_reducible assumption | go_simp, by first | with_reducible assumption | go_simp, by first | with_reducible assumption | go_simp, by first | with_reducible assumption | go_simp, by first | with_reducible assumption | go_simp, by first | with_reducible assumption | go_simp, by first | with_reducible assumption | go_simp, by first | with_reducible assumption | go_simp, by first | with_reducible assumption | go_simp, by first | with_reducible assumption | go_simp, by first | with_reducible assumption | go_simp, by first | with_reducible assumption | go_simp, by first | with_reducible assumption | go_simp, by first | with_reducible assumption | go_simp, by first | with_reducible assumption | go_simp, by first | with_reducible assumption | go_simp, by first | with_reducible assumption | go_simp, by first | with_reducible assumption | go_simp, by first | with_reducible assumption | go_simp, by first | with_reducible assumption | go_simp, by repeat (first | with_reducible exact Below.refl _ _ | with_reducible exact B9 | with_reducible apply below_drewN | with_reducible apply Below.drew | (with_reducible refine Below.alloc ?_ (by first | (simp; done) | (simp; omega) | omega) _) | (with_reducible refine Below.setCell ?_ (by first | (simp; done) | (simp; omega) | omega) _)), by first | with_reducible assumption | (simp; done) | (simp; omega)⟩ ?_ ?_
    · rintro W ⟨k10_b3_0, g10_b3_0, k10_b3_1, g10_b3_1, k10_b4_0, g10_b4_0, k10_b4_1, g10_b4_1, k10_b5_0, g10_b5_0, k10_b5_1, g10_b5_1, k10_g8_0, g10_g8_0, k10_g8_1, g10_g8_1, k10_g9_0, g10_g9_0, k10_g9_1, g10_g9_1, k10_g10_0, g10_g10_0, k10_g10_1, g10_g10_1, B10, z10⟩; exact ⟨k10_b3_0, g10_b3_0, k10_b3_1, g10_b3_1, k10_b4_0, g10_b4_0, k10_b4_1, g10_b4_1, k10_b5_0, g10_b5_0, k10_b5_1, g10_b5_1, k10_g8_0, g10_g8_0, k10_g8_1, g10_g8_1, k10_g9_0, g10_g9_0, k10_g9_1, g10_g9_1, k10_g10_0, g10_g10_0, k10_g10_1, g10_g10_1⟩
    (try clear B9)
    (try clear z9)
    (try clear k9_b3_0)
    (try clear g9_b3_0)
    (try clear k9_b3_1)
    (try clear g9_b3_1)
    (try clear k9_b4_0)
    (try clear g9_b4_0)
    (try clear k9_b4_1)
    (try clear g9_b4_1)
    (try clear k9_b5_0)
    (try clear g9_b5_0)
    (try clear k9_b5_1)
    (try clear g9_b5_1)
    (try clear k9_g8_0)
    (try clear g9_g8_0)
    (try clear k9_g8_1)
    (try clear g9_g8_1)
    (try clear k9_g9_0)
    (try clear g9_g9_0)
    (try clear k9_g9_1)
    (try clear g9_g9_1)
    (try clear k9_g10_0)
    (try clear g9_g10_0)
    (try clear k9_g10_1)
    (try clear g9_g10_1)
    (try clear q9_b3)
    (try clear x9_b3)
    (try clear y9_b3)
    (try clear q9_b4)
    (try clear x9_b4)
    (try clear y9_b4)
    (try clear q9_b5)
    (try clear x9_b5)
    (try clear y9_b5)
    (try clear q9_g8)
    (try clear x9_g8)
    (try clear y9_g8)
    (try clear q9_g9)
    (try clear x9_g9)
    (try clear y9_g9)
    (try clear q9_g10)
    (try clear x9_g10)
    (try clear y9_g10)
    rintro w10 ⟨k10_b3_0, g10_b3_0, k10_b3_1, g10_b3_1, k10_b4_0, g10_b4_0, k10_b4_1, g10_b4_1, k10_b5_0, g10_b5_0, k10_b5_1, g10_b5_1, k10_g8_0, g10_g8_0, k10_g8_1, g10_g8_1, k10_g9_0, g10_g9_0, k10_g9_1, g10_g9_1, k10_g10_0, g10_g10_0, k10_g10_1, g10_g10_1, B10, z10⟩ gg
    simp only [List.take_succ_cons, List.take_zero, List.drop_succ_cons, List.drop_zero, Obs, ob, Sp.get, Sp.news, Act.put, List.setIfInBounds_toArray, List.set_cons_zero, List.set_cons_succ, List.nil_append, List.cons_append, List.append_nil]
    refine ⟨⟨rfl, ?_⟩, ⟨rfl, ?_⟩, ⟨rfl, ?_, ?_⟩, ⟨rfl, ?_⟩, ⟨rfl, ?_⟩, ⟨rfl, ?_, ?_⟩, ⟨rfl, ?_⟩, ⟨rfl, ?_⟩, ⟨rfl, ?_, ?_⟩, ⟨rfl, ?_, ?_⟩, ⟨rfl, ?_⟩, ⟨rfl, ?_⟩, ⟨rfl, ?_⟩, ⟨rfl, ?_, ?_⟩, ⟨rfl, ?_⟩, ⟨rfl, ?_⟩, ⟨rfl, ?_⟩, ⟨rfl, ?_, ?_⟩, ⟨rfl, ?_⟩, ⟨rfl, ?_, ?_⟩, ⟨rfl, ?_⟩, ⟨rfl, ?_, ?_⟩, ⟨rfl, ?_, ?_⟩, ⟨rfl, ?_⟩, ⟨rfl, ?_⟩, ⟨rfl, ?_⟩, ⟨rfl, ?_, ?_⟩, ⟨rfl, ?_⟩, ⟨rfl, ?_⟩, ⟨rfl, ?_⟩, ⟨rfl, ?_, ?_⟩, ⟨rfl, ?_⟩, ⟨rfl, ?_⟩, ?_⟩
    · clear k10_b3_0 g10_b3_0 k10_b3_1 g10_b3_1 k10_b4_0 g10_b4_0 k10_b4_1 g10_b4_1 k10_b5_0 g10_b5_0 k10_b5_1 g10_b5_1 k10_g8_0 g10_g8_0 k10_g8_1 g10_g8_1 k10_g9_0 g10_g9_0 k10_g9_1 g10_g9_1 k10_g10_0 g10_g10_0 k10_g10_1 g10_g10_1 B10 z10; rintro w' ⟨h0, h1, h2, h3, h4, h5, h6, h7, h8, h9, h10, h11, h12, h13, h14, h15, h16, h17, h18, h19, h20, h21, h22, h23⟩; go_simp; try exact IntWalk.i64_in _ (by omega)
    · clear k10_b3_0 g10_b3_0 k10_b3_1 g10_b3_1 k10_b4_0 g10_b4_0 k10_b4_1 g10_b4_1 k10_b5_0 g10_b5_0 k10_b5_1 g10_b5_1 k10_g8_0 g10_g8_0 k10_g8_1 g10_g8_1 k10_g9_0 g10_g9_0 k10_g9_1 g10_g9_1 k10_g10_0 g10_g10_0 k10_g10_1 g10_g10_1 B10 z10; rintro w' ⟨h0, h1, h2, h3, h4, h5, h6, h7, h8, h9, h10, h11, h12, h13, h14, h15, h16, h17, h18, h19, h20, h21, h22, h23⟩; go_simp; try exact IntWalk.i64_in _ (by omega)
    · clear k10_b3_0 g10_b3_0 k10_b3_1 g10_b3_1 k10_b4_0 g10_b4_0 k10_b4_1 g10_b4_1 k10_b5_0 g10_b5_0 k10_b5_1 g10_b5_1 k10_g8_0 g10_g8_0 k10_g8_1 g10_g8_1 k10_g9_0 g10_g9_0 k10_g9_1 g10_g9_1 k10_g10_0 g10_g10_0 k10_g10_1 g10_g10_1 B10 z10; rintro w' ⟨h0, h1, h2, h3, h4, h5, h6, h7, h8, h9, h10, h11, h12, h13, h14, h15, h16, h17, h18, h19, h20, h21, h22, h23⟩; go_simp
    · clear k10_b3_0 g10_b3_0 k10_b3_1 g10_b3_1 k10_b4_0 g10_b4_0 k10_b4_1 g10_b4_1 k10_b5_0 g10_b5_0 k10_b5_1 g10_b5_1 k10_g8_0 g10_g8_0 k10_g8_1 g10_g8_1 k10_g9_0 g10_g9_0 k10_g9_1 g10_g9_1 k10_g10_0 g10_g10_0 k10_g10_1 g10_g10_1 B10 z10; rintro w' ⟨h0, h1, h2, h3, h4, h5, h6, h7, h8, h9, h10, h11, h12, h13, h14, h15, h16, h17, h18, h19, h20, h21, h22, h23⟩; exact vadd_small X Y S T hX hY hS hT _
    · clear k10_b3_0 g10_b3_0 k10_b3_1 g10_b3_1 k10_b4_0 g10_b4_0 k10_b4_1 g10_b4_1 k10_b5_0 g10_b5_0 k10_b5_1 g10_b5_1 k10_g8_0 g10_g8_0 k10_g8_1 g10_g8_1 k10_g9_0 g10_g9_0 k10_g9_1 g10_g9_1 k10_g10_0 g10_g10_0 k10_g10_1 g10_g10_1 B10 z10; rintro w' ⟨h0, h1, h2, h3, h4, h5, h6, h7, h8, h9, h10, h11, h12, h13, h14, h15, h16, h17, h18, h19, h20, h21, h22, h23⟩; go_simp; try exact IntWalk.i64_in _ (by omega)
    · clear k10_b3_0 g10_b3_0 k10_b3_1 g10_b3_1 k10_b4_0 g10_b4_0 k10_b4_1 g10_b4_1 k10_b5_0 g10_b5_0 k10_b5_1 g10_b5_1 k10_g8_0 g10_g8_0 k10_g8_1 g10_g8_1 k10_g9_0 g10_g9_0 k10_g9_1 g10_g9_1 k10_g10_0 g10_g10_0 k10_g10_1 g10_g10_1 B10 z10; rintro w' ⟨h0, h1, h2, h3, h4, h5, h6, h7, h8, h9, h10, h11, h12, h13, h14, h15, h16, h17, h18, h19, h20, h21, h22, h23⟩; go_simp; try exact IntWalk.i64_in _ (by omega)
    · clear k10_b3_0 g10_b3_0 k10_b3_1 g10_b3_1 k10_b4_0 g10_b4_0 k10_b4_1 g10_b4_1 k10_b5_0 g10_b5_0 k10_b5_1 g10_b5_1 k10_g8_0 g10_g8_0 k10_g8_1 g10_g8_1 k10_g9_0 g10_g9_0 k10_g9_1 g10_g9_1 k10_g10_0 g10_g10_0 k10_g10_1 g10_g10_1 B10 z10; rintro w' ⟨h0, h1, h2, h3, h4, h5, h6, h7, h8, h9, h10, h11, h12, h13, h14, h15, h16, h17, h18, h19, h20, h21, h22, h23⟩; go_simp
    · clear k10_b3_0 g10_b3_0 k10_b3_1 g10_b3_1 k10_b4_0 g10_b4_0 k10_b4_1 g10_b4_1 k10_b5_0 g10_b5_0 k10_b5_1 g10_b5_1 k10_g8_0 g10_g8_0 k10_g8_1 g10_g8_1 k10_g9_0 g10_g9_0 k10_g9_1 g10_g9_1 k10_g10_0 g10_g10_0 k10_g10_1 g10_g10_1 B10 z10; rintro w' ⟨h0, h1, h2, h3, h4, h5, h6, h7, h8, h9, h10, h11, h12, h13, h14, h15, h16, h17, h18, h19, h20, h21, h22, h23⟩; exact vadd_small U Z S T hU hZ hS hT _
    · clear k10_b3_0 g10_b3_0 k10_b3_1 g10_b3_1 k10_b4_0 g10_b4_0 k10_b4_1 g10_b4_1 k10_b5_0 g10_b5_0 k10_b5_1 g10_b5_1 k10_g8_0 g10_g8_0 k10_g8_1 g10_g8_1 k10_g9_0 g10_g9_0 k10_g9_1 g10_g9_1 k10_g10_0 g10_g10_0 k10_g10_1 g10_g10_1 B10 z10; rintro w' ⟨h0, h1, h2, h3, h4, h5, h6, h7, h8, h9, h10, h11, h12, h13, h14, h15, h16, h17, h18, h19, h20, h21, h22, h23⟩; go_simp; try exact IntWalk.i64_in _ (by omega)
    · clear k10_b3_0 g10_b3_0 k10_b3_1 g10_b3_1 k10_b4_0 g10_b4_0 k10_b4_1 g10_b4_1 k10_b5_0 g10_b5_0 k10_b5_1 g10_b5_1 k10_g8_0 g10_g8_0 k10_g8_1 g10_g8_1 k10_g9_0 g10_g9_0 k10_g9_1 g10_g9_1 k10_g10_0 g10_g10_0 k10_g10_1 g10_g10_1 B10 z10; rintro w' ⟨h0, h1, h2, h3, h4, h5, h6, h7, h8, h9, h10, h11, h12, h13, h14, h15, h16, h17, h18, h19, h20, h21, h22, h23⟩; go_simp; try exact IntWalk.i64_in _ (by omega)
    · clear k10_b3_0 g10_b3_0 k10_b3_1 g10_b3_1 k10_b4_0 g10_b4_0 k10_b4_1 g10_b4_1 k10_b5_0 g10_b5_0 k10_b5_1 g10_b5_1 k10_g8_0 g10_g8_0 k10_g8_1 g10_g8_1 k10_g9_0 g10_g9_0 k10_g9_1 g10_g9_1 k10_g10_0 g10_g10_0 k10_g10_1 g10_g10_1 B10 z10; rintro w' ⟨h0, h1, h2, h3, h4, h5, h6, h7, h8, h9, h10, h11, h12, h13, h14, h15, h16, h17, h18, h19, h20, h21, h22, h23⟩; go_simp
    · clear k10_b3_0 g10_b3_0 k10_b3_1 g10_b3_1 k10_b4_0 g10_b4_0 k10_b4_1 g10_b4_1 k10_b5_0 g10_b5_0 k10_b5_1 g10_b5_1 k10_g8_0 g10_g8_0 k10_g8_1 g10_g8_1 k10_g9_0 g10_g9_0 k10_g9_1 g10_g9_1 k10_g10_0 g10_g10_0 k10_g10_1 g10_g10_1 B10 z10; rintro w' ⟨h0, h1, h2, h3, h4, h5, h6, h7, h8, h9, h10, h11, h12, h13, h14, h15, h16, h17, h18, h19, h20, h21, h22, h23⟩; exact vadd_small S T S T hS hT hS hT _
    · clear k10_b3_0 g10_b3_0 k10_b3_1 g10_b3_1 k10_b4_0 g10_b4_0 k10_b4_1 g10_b4_1 k10_b5_0 g10_b5_0 k10_b5_1 g10_b5_1 k10_g8_0 g10_g8_0 k10_g8_1 g10_g8_1 k10_g9_0 g10_g9_0 k10_g9_1 g10_g9_1 k10_g10_0 g10_g10_0 k10_g10_1 g10_g10_1 B10 z10; rintro w' ⟨h0, h1, h2, h3, h4, h5, h6, h7, h8, h9, h10, h11, h12, h13, h14, h15, h16, h17, h18, h19, h20, h21, h22, h23⟩; go_simp
    · clear k10_b3_0 g10_b3_0 k10_b3_1 g10_b3_1 k10_b4_0 g10_b4_0 k10_b4_1 g10_b4_1 k10_b5_0 g10_b5_0 k10_b5_1 g10_b5_1 k10_g8_0 g10_g8_0 k10_g8_1 g10_g8_1 k10_g9_0 g10_g9_0 k10_g9_1 g10_g9_1 k10_g10_0 g10_g10_0 k10_g10_1 g10_g10_1 B10 z10; rintro w' ⟨h0, h1, h2, h3, h4, h5, h6, h7, h8, h9, h10, h11, h12, h13, h14, h15, h16, h17, h18, h19, h20, h21, h22, h23⟩; exact m2 _
    · clear k10_b3_0 g10_b3_0 k10_b3_1 g10_b3_1 k10_b4_0 g10_b4_0 k10_b4_1 g10_b4_1 k10_b5_0 g10_b5_0 k10_b5_1 g10_b5_1 k10_g8_0 g10_g8_0 k10_g8_1 g10_g8_1 k10_g9_0 g10_g9_0 k10_g9_1 g10_g9_1 k10_g10_0 g10_g10_0 k10_g10_1 g10_g10_1 B10 z10; rintro w' ⟨h0, h1, h2, h3, h4, h5, h6, h7, h8, h9, h10, h11, h12, h13, h14, h15, h16, h17, h18, h19, h20, h21, h22, h23⟩; go_simp; try exact IntWalk.i64_in _ (by omega)
    · clear k10_b3_0 g10_b3_0 k10_b3_1 g10_b3_1 k10_b4_0 g10_b4_0 k10_b4_1 g10_b4_1 k10_b5_0 g10_b5_0 k10_b5_1 g10_b5_1 k10_g8_0 g10_g8_0 k10_g8_1 g10_g8_1 k10_g9_0 g10_g9_0 k10_g9_1 g10_g9_1 k10_g10_0 g10_g10_0 k10_g10_1 g10_g10_1 B10 z10; rintro w' ⟨h0, h1, h2, h3, h4, h5, h6, h7, h8, h9, h10, h11, h12, h13, h14, h15, h16, h17, h18, h19, h20, h21, h22, h23⟩; go_simp; try exact IntWalk.i64_in _ (by omega)
    · clear k10_b3_0 g10_b3_0 k10_b3_1 g10_b3_1 k10_b4_0 g10_b4_0 k10_b4_1 g10_b4_1 k10_b5_0 g10_b5_0 k10_b5_1 g10_b5_1 k10_g8_0 g10_g8_0 k10_g8_1 g10_g8_1 k10_g9_0 g10_g9_0 k10_g9_1 g10_g9_1 k10_g10_0 g10_g10_0 k10_g10_1 g10_g10_1 B10 z10; rintro w' ⟨h0, h1, h2, h3, h4, h5, h6, h7, h8, h9, h10, h11, h12, h13, h14, h15, h16, h17, h18, h19, h20, h21, h22, h23⟩; go_simp; try exact IntWalk.i64_in _ (by omega)
    · clear k10_b3_0 g10_b3_0 k10_b3_1 g10_b3_1 k10_b4_0 g10_b4_0 k10_b4_1 g10_b4_1 k10_b5_0 g10_b5_0 k10_b5_1 g10_b5_1 k10_g8_0 g10_g8_0 k10_g8_1 g10_g8_1 k10_g9_0 g10_g9_0 k10_g9_1 g10_g9_1 k10_g10_0 g10_g10_0 k10_g10_1 g10_g10_1 B10 z10; rintro w' ⟨h0, h1, h2, h3, h4, h5, h6, h7, h8, h9, h10, h11, h12, h13, h14, h15, h16, h17, h18, h19, h20, h21, h22, h23⟩; go_simp
    · clear k10_b3_0 g10_b3_0 k10_b3_1 g10_b3_1 k10_b4_0 g10_b4_0 k10_b4_1 g10_b4_1 k10_b5_0 g10_b5_0 k10_b5_1 g10_b5_1 k10_g8_0 g10_g8_0 k10_g8_1 g10_g8_1 k10_g9_0 g10_g9_0 k10_g9_1 g10_g9_1 k10_g10_0 g10_g10_0 k10_g10_1 g10_g10_1 B10 z10; rintro w' ⟨h0, h1, h2, h3, h4, h5, h6, h7, h8, h9, h10, h11, h12, h13, h14, h15, h16, h17, h18, h19, h20, h21, h22, h23⟩; exact m1 _
    · clear k10_b3_0 g10_b3_0 k10_b3_1 g10_b3_1 k10_b4_0 g10_b4_0 k10_b4_1 g10_b4_1 k10_b5_0 g10_b5_0 k10_b5_1 g10_b5_1 k10_g8_0 g10_g8_0 k10_g8_1 g10_g8_1 k10_g9_0 g10_g9_0 k10_g9_1 g10_g9_1 k10_g10_0 g10_g10_0 k10_g10_1 g10_g10_1 B10 z10; rintro w' ⟨h0, h1, h2, h3, h4, h5, h6, h7, h8, h9, h10, h11, h12, h13, h14, h15, h16, h17, h18, h19, h20, h21, h22, h23⟩; go_simp; try exact IntWalk.i64_in _ (by omega)
    · clear k10_b3_0 g10_b3_0 k10_b3_1 g10_b3_1 k10_b4_0 g10_b4_0 k10_b4_1 g10_b4_1 k10_b5_0 g10_b5_0 k10_b5_1 g10_b5_1 k10_g8_0 g10_g8_0 k10_g8_1 g10_g8_1 k10_g9_0 g10_g9_0 k10_g9_1 g10_g9_1 k10_g10_0 g10_g10_0 k10_g10_1 g10_g10_1 B10 z10; rintro w' ⟨h0, h1, h2, h3, h4, h5, h6, h7, h8, h9, h10, h11, h12, h13, h14, h15, h16, h17, h18, h19, h20, h21, h22, h23⟩; go_simp; try exact IntWalk.i64_in _ (by omega)
    · clear k10_b3_0 g10_b3_0 k10_b3_1 g10_b3_1 k10_b4_0 g10_b4_0 k10_b4_1 g10_b4_1 k10_b5_0 g10_b5_0 k10_b5_1 g10_b5_1 k10_g8_0 g10_g8_0 k10_g8_1 g10_g8_1 k10_g9_0 g10_g9_0 k10_g9_1 g10_g9_1 k10_g10_0 g10_g10_0 k10_g10_1 g10_g10_1 B10 z10; rintro w' ⟨h0, h1, h2, h3, h4, h5, h6, h7, h8, h9, h10, h11, h12, h13, h14, h15, h16, h17, h18, h19, h20, h21, h22, h23⟩; go_simp; try exact IntWalk.i64_in _ (by omega)
    · clear k10_b3_0 g10_b3_0 k10_b3_1 g10_b3_1 k10_b4_0 g10_b4_0 k10_b4_1 g10_b4_1 k10_b5_0 g10_b5_0 k10_b5_1 g10_b5_1 k10_g8_0 g10_g8_0 k10_g8_1 g10_g8_1 k10_g9_0 g10_g9_0 k10_g9_1 g10_g9_1 k10_g10_0 g10_g10_0 k10_g10_1 g10_g10_1 B10 z10; rintro w' ⟨h0, h1, h2, h3, h4, h5, h6, h7, h8, h9, h10, h11, h12, h13, h14, h15, h16, h17, h18, h19, h20, h21, h22, h23⟩; go_simp
    · clear k10_b3_0 g10_b3_0 k10_b3_1 g10_b3_1 k10_b4_0 g10_b4_0 k10_b4_1 g10_b4_1 k10_b5_0 g10_b5_0 k10_b5_1 g10_b5_1 k10_g8_0 g10_g8_0 k10_g8_1 g10_g8_1 k10_g9_0 g10_g9_0 k10_g9_1 g10_g9_1 k10_g10_0 g10_g10_0 k10_g10_1 g10_g10_1 B10 z10; rintro w' ⟨h0, h1, h2, h3, h4, h5, h6, h7, h8, h9, h10, h11, h12, h13, h14, h15, h16, h17, h18, h19, h20, h21, h22, h23⟩; exact vperp_small X Y hX hY _
    · clear k10_b3_0 g10_b3_0 k10_b3_1 g10_b3_1 k10_b4_0 g10_b4_0 k10_b4_1 g10_b4_1 k10_b5_0 g10_b5_0 k10_b5_1 g10_b5_1 k10_g8_0 g10_g8_0 k10_g8_1 g10_g8_1 k10_g9_0 g10_g9_0 k10_g9_1 g10_g9_1 k10_g10_0 g10_g10_0 k10_g10_1 g10_g10_1 B10 z10; rintro w' ⟨h0, h1, h2, h3, h4, h5, h6, h7, h8, h9, h10, h11, h12, h13, h14, h15, h16, h17, h18, h19, h20, h21, h22, h23⟩; go_simp; try exact IntWalk.i64_in _ (by omega)
    · clear k10_b3_0 g10_b3_0 k10_b3_1 g10_b3_1 k10_b4_0 g10_b4_0 k10_b4_1 g10_b4_1 k10_b5_0 g10_b5_0 k10_b5_1 g10_b5_1 k10_g8_0 g10_g8_0 k10_g8_1 g10_g8_1 k10_g9_0 g10_g9_0 k10_g9_1 g10_g9_1 k10_g10_0 g10_g10_0 k10_g10_1 g10_g10_1 B10 z10; rintro w' ⟨h0, h1, h2, h3, h4, h5, h6, h7, h8, h9, h10, h11, h12, h13, h14, h15, h16, h17, h18, h19, h20, h21, h22, h23⟩; go_simp
    · clear k10_b3_0 g10_b3_0 k10_b3_1 g10_b3_1 k10_b4_0 g10_b4_0 k10_b4_1 g10_b4_1 k10_b5_0 g10_b5_0 k10_b5_1 g10_b5_1 k10_g8_0 g10_g8_0 k10_g8_1 g10_g8_1 k10_g9_0 g10_g9_0 k10_g9_1 g10_g9_1 k10_g10_0 g10_g10_0 k10_g10_1 g10_g10_1 B10 z10; rintro w' ⟨h0, h1, h2, h3, h4, h5, h6, h7, h8, h9, h10, h11, h12, h13, h14, h15, h16, h17, h18, h19, h20, h21, h22, h23⟩; exact vperp_small U Z hU hZ _
    · clear k10_b3_0 g10_b3_0 k10_b3_1 g10_b3_1 k10_b4_0 g10_b4_0 k10_b4_1 g10_b4_1 k10_b5_0 g10_b5_0 k10_b5_1 g10_b5_1 k10_g8_0 g10_g8_0 k10_g8_1 g10_g8_1 k10_g9_0 g10_g9_0 k10_g9_1 g10_g9_1 k10_g10_0 g10_g10_0 k10_g10_1 g10_g10_1 B10 z10; rintro w' ⟨h0, h1, h2, h3, h4, h5, h6, h7, h8, h9, h10, h11, h12, h13, h14, h15, h16, h17, h18, h19, h20, h21, h22, h23⟩; go_simp; try exact IntWalk.i64_in _ (by omega)
    · clear k10_b3_0 g10_b3_0 k10_b3_1 g10_b3_1 k10_b4_0 g10_b4_0 k10_b4_1 g10_b4_1 k10_b5_0 g10_b5_0 k10_b5_1 g10_b5_1 k10_g8_0 g10_g8_0 k10_g8_1 g10_g8_1 k10_g9_0 g10_g9_0 k10_g9_1 g10_g9_1 k10_g10_0 g10_g10_0 k10_g10_1 g10_g10_1 B10 z10; rintro w' ⟨h0, h1, h2, h3, h4, h5, h6, h7, h8, h9, h10, h11, h12, h13, h14, h15, h16, h17, h18, h19, h20, h21, h22, h23⟩; go_simp
    · clear k10_b3_0 g10_b3_0 k10_b3_1 g10_b3_1 k10_b4_0 g10_b4_0 k10_b4_1 g10_b4_1 k10_b5_0 g10_b5_0 k10_b5_1 g10_b5_1 k10_g8_0 g10_g8_0 k10_g8_1 g10_g8_1 k10_g9_0 g10_g9_0 k10_g9_1 g10_g9_1 k10_g10_0 g10_g10_0 k10_g10_1 g10_g10_1 B10 z10; rintro w' ⟨h0, h1, h2, h3, h4, h5, h6, h7, h8, h9, h10, h11, h12, h13, h14, h15, h16, h17, h18, h19, h20, h21, h22, h23⟩; exact vperp_small S T hS hT _
    · clear k10_b3_0 g10_b3_0 k10_b3_1 g10_b3_1 k10_b4_0 g10_b4_0 k10_b4_1 g10_b4_1 k10_b5_0 g10_b5_0 k10_b5_1 g10_b5_1 k10_g8_0 g10_g8_0 k10_g8_1 g10_g8_1 k10_g9_0 g10_g9_0 k10_g9_1 g10_g9_1 k10_g10_0 g10_g10_0 k10_g10_1 g10_g10_1 B10 z10; rintro w' ⟨h0, h1, h2, h3, h4, h5, h6, h7, h8, h9, h10, h11, h12, h13, h14, h15, h16, h17, h18, h19, h20, h21, h22, h23⟩; go_simp
    · clear k10_b3_0 g10_b3_0 k10_b3_1 g10_b3_1 k10_b4_0 g10_b4_0 k10_b4_1 g10_b4_1 k10_b5_0 g10_b5_0 k10_b5_1 g10_b5_1 k10_g8_0 g10_g8_0 k10_g8_1 g10_g8_1 k10_g9_0 g10_g9_0 k10_g9_1 g10_g9_1 k10_g10_0 g10_g10_0 k10_g10_1 g10_g10_1 B10 z10; rintro w' ⟨h0, h1, h2, h3, h4, h5, h6, h7, h8, h9, h10, h11, h12, h13, h14, h15, h16, h17, h18, h19, h20, h21, h22, h23⟩; exact m3 _
    · clear k10_b3_0 g10_b3_0 k10_b3_1 g10_b3_1 k10_b4_0 g10_b4_0 k10_b4_1 g10_b4_1 k10_b5_0 g10_b5_0 k10_b5_1 g10_b5_1 k10_g8_0 g10_g8_0 k10_g8_1 g10_g8_1 k10_g9_0 g10_g9_0 k10_g9_1 g10_g9_1 k10_g10_0 g10_g10_0 k10_g10_1 g10_g10_1 B10 z10; rintro w' ⟨h0, h1, h2, h3, h4, h5, h6, h7, h8, h9, h10, h11, h12, h13, h14, h15, h16, h17, h18, h19, h20, h21, h22, h23⟩; go_simp; try exact IntWalk.i64_in _ (by omega)
    · clear k10_b3_0 g10_b3_0 k10_b3_1 g10_b3_1 k10_b4_0 g10_b4_0 k10_b4_1 g10_b4_1 k10_b5_0 g10_b5_0 k10_b5_1 g10_b5_1 k10_g8_0 g10_g8_0 k10_g8_1 g10_g8_1 k10_g9_0 g10_g9_0 k10_g9_1 g10_g9_1 k10_g10_0 g10_g10_0 k10_g10_1 g10_g10_1 B10 z10; rintro w' ⟨h0, h1, h2, h3, h4, h5, h6, h7, h8, h9, h10, h11, h12, h13, h14, h15, h16, h17, h18, h19, h20, h21, h22, h23⟩; go_simp; try exact IntWalk.i64_in _ (by omega)
    · clear k10_b3_0 g10_b3_0 k10_b3_1 g10_b3_1 k10_b4_0 g10_b4_0 k10_b4_1 g10_b4_1 k10_b5_0 g10_b5_0 k10_b5_1 g10_b5_1 k10_g8_0 g10_g8_0 k10_g8_1 g10_g8_1 k10_g9_0 g10_g9_0 k10_g9_1 g10_g9_1 k10_g10_0 g10_g10_0 k10_g10_1 g10_g10_1 B10 z10; rintro w' ⟨h0, h1, h2, h3, h4, h5, h6, h7, h8, h9, h10, h11, h12, h13, h14, h15, h16, h17, h18, h19, h20, h21, h22, h23⟩; go_simp; try exact IntWalk.i64_in _ (by omega)
    · clear k10_b3_0 g10_b3_0 k10_b3_1 g10_b3_1 k10_b4_0 g10_b4_0 k10_b4_1 g10_b4_1 k10_b5_0 g10_b5_0 k10_b5_1 g10_b5_1 k10_g8_0 g10_g8_0 k10_g8_1 g10_g8_1 k10_g9_0 g10_g9_0 k10_g9_1 g10_g9_1 k10_g10_0 g10_g10_0 k10_g10_1 g10_g10_1 B10 z10; rintro w' ⟨h0, h1, h2, h3, h4, h5, h6, h7, h8, h9, h10, h11, h12, h13, h14, h15, h16, h17, h18, h19, h20, h21, h22, h23⟩; go_simp
    · clear k10_b3_0 g10_b3_0 k10_b3_1 g10_b3_1 k10_b4_0 g10_b4_0 k10_b4_1 g10_b4_1 k10_b5_0 g10_b5_0 k10_b5_1 g10_b5_1 k10_g8_0 g10_g8_0 k10_g8_1 g10_g8_1 k10_g9_0 g10_g9_0 k10_g9_1 g10_g9_1 k10_g10_0 g10_g10_0 k10_g10_1 g10_g10_1 B10 z10; rintro w' ⟨h0, h1, h2, h3, h4, h5, h6, h7, h8, h9, h10, h11, h12, h13, h14, h15, h16, h17, h18, h19, h20, h21, h22, h23⟩; exact m1 _
    · clear k10_b3_0 g10_b3_0 k10_b3_1 g10_b3_1 k10_b4_0 g10_b4_0 k10_b4_1 g10_b4_1 k10_b5_0 g10_b5_0 k10_b5_1 g10_b5_1 k10_g8_0 g10_g8_0 k10_g8_1 g10_g8_1 k10_g9_0 g10_g9_0 k10_g9_1 g10_g9_1 k10_g10_0 g10_g10_0 k10_g10_1 g10_g10_1 B10 z10; rintro w' ⟨h0, h1, h2, h3, h4, h5, h6, h7, h8, h9, h10, h11, h12, h13, h14, h15, h16, h17, h18, h19, h20, h21, h22, h23⟩; go_simp; try exact IntWalk.i64_in _ (by omega)
    · clear k10_b3_0 g10_b3_0 k10_b3_1 g10_b3_1 k10_b4_0 g10_b4_0 k10_b4_1 g10_b4_1 k10_b5_0 g10_b5_0 k10_b5_1 g10_b5_1 k10_g8_0 g10_g8_0 k10_g8_1 g10_g8_1 k10_g9_0 g10_g9_0 k10_g9_1 g10_g9_1 k10_g10_0 g10_g10_0 k10_g10_1 g10_g10_1 B10 z10; rintro w' ⟨h0, h1, h2, h3, h4, h5, h6, h7, h8, h9, h10, h11, h12, h13, h14, h15, h16, h17, h18, h19, h20, h21, h22, h23⟩; go_simp; try exact IntWalk.i64_in _ (by omega)
    · clear k10_b3_0 g10_b3_0 k10_b3_1 g10_b3_1 k10_b4_0 g10_b4_0 k10_b4_1 g10_b4_1 k10_b5_0 g10_b5_0 k10_b5_1 g10_b5_1 k10_g8_0 g10_g8_0 k10_g8_1 g10_g8_1 k10_g9_0 g10_g9_0 k10_g9_1 g10_g9_1 k10_g10_0 g10_g10_0 k10_g10_1 g10_g10_1 B10 z10; rintro w' ⟨h0, h1, h2, h3, h4, h5, h6, h7, h8, h9, h10, h11, h12, h13, h14, h15, h16, h17, h18, h19, h20, h21, h22, h23⟩; go_simp; try exact IntWalk.i64_in _ (by omega)
    · clear k10_b3_0 g10_b3_0 k10_b3_1 g10_b3_1 k10_b4_0 g10_b4_0 k10_b4_1 g10_b4_1 k10_b5_0 g10_b5_0 k10_b5_1 g10_b5_1 k10_g8_0 g10_g8_0 k10_g8_1 g10_g8_1 k10_g9_0 g10_g9_0 k10_g9_1 g10_g9_1 k10_g10_0 g10_g10_0 k10_g10_1 g10_g10_1 B10 z10; rintro w' ⟨h0, h1, h2, h3, h4, h5, h6, h7, h8, h9, h10, h11, h12, h13, h14, h15, h16, h17, h18, h19, h20, h21, h22, h23⟩; go_simp
    · clear k10_b3_0 g10_b3_0 k10_b3_1 g10_b3_1 k10_b4_0 g10_b4_0 k10_b4_1 g10_b4_1 k10_b5_0 g10_b5_0 k10_b5_1 g10_b5_1 k10_g8_0 g10_g8_0 k10_g8_1 g10_g8_1 k10_g9_0 g10_g9_0 k10_g9_1 g10_g9_1 k10_g10_0 g10_g10_0 k10_g10_1 g10_g10_1 B10 z10; rintro w' ⟨h0, h1, h2, h3, h4, h5, h6, h7, h8, h9, h10, h11, h12, h13, h14, h15, h16, h17, h18, h19, h20, h21, h22, h23⟩; exact example_any _
    · clear k10_b3_0 g10_b3_0 k10_b3_1 g10_b3_1 k10_b4_0 g10_b4_0 k10_b4_1 g10_b4_1 k10_b5_0 g10_b5_0 k10_b5_1 g10_b5_1 k10_g8_0 g10_g8_0 k10_g8_1 g10_g8_1 k10_g9_0 g10_g9_0 k10_g9_1 g10_g9_1 k10_g10_0 g10_g10_0 k10_g10_1 g10_g10_1 B10 z10; rintro w' ⟨h0, h1, h2, h3, h4, h5, h6, h7, h8, h9, h10, h11, h12, h13, h14, h15, h16, h17, h18, h19, h20, h21, h22, h23⟩; go_simp; try exact IntWalk.i64_in _ (by omega)
    · clear k10_b3_0 g10_b3_0 k10_b3_1 g10_b3_1 k10_b4_0 g10_b4_0 k10_b4_1 g10_b4_1 k10_b5_0 g10_b5_0 k10_b5_1 g10_b5_1 k10_g8_0 g10_g8_0 k10_g8_1 g10_g8_1 k10_g9_0 g10_g9_0 k10_g9_1 g10_g9_1 k10_g10_0 g10_g10_0 k10_g10_1 g10_g10_1 B10 z10; rintro w' ⟨h0, h1, h2, h3, h4, h5, h6, h7, h8, h9, h10, h11, h12, h13, h14, h15, h16, h17, h18, h19, h20, h21, h22, h23⟩; go_simp; try exact IntWalk.i64_in _ (by omega)
    rintro w11 ⟨h0, h1, h2, h3, h4, h5, h6, h7, h8, h9, h10, h11, h12, h13, h14, h15, h16, h17, h18, h19, h20, h21, h22, h23⟩ hb11 hF
    clear hF
    have k11_b3_0 := bcs hb11 k10_b3_0
    have g11_b3_0 := bfs hb11 k10_b3_0 g10_b3_0
    have k11_b3_1 := bcs hb11 k10_b3_1
    have g11_b3_1 := bfs hb11 k10_b3_1 g10_b3_1
    have k11_b4_0 := bcs hb11 k10_b4_0
    have g11_b4_0 := bfs hb11 k10_b4_0 g10_b4_0
    have k11_b4_1 := bcs hb11 k10_b4_1
    have g11_b4_1 := bfs hb11 k10_b4_1 g10_b4_1
    have k11_b5_0 := bcs hb11 k10_b5_0
    have g11_b5_0 := bfs hb11 k10_b5_0 g10_b5_0
    have k11_b5_1 := bcs hb11 k10_b5_1
    have g11_b5_1 := bfs hb11 k10_b5_1 g10_b5_1
    have k11_g8_0 := bcs hb11 k10_g8_0
    have g11_g8_0 := bfs hb11 k10_g8_0 g10_g8_0
    have k11_g8_1 := bcs hb11 k10_g8_1
    have g11_g8_1 := bfs hb11 k10_g8_1 g10_g8_1
    have k11_g9_0 := bcs hb11 k10_g9_0
    have g11_g9_0 := bfs hb11 k10_g9_0 g10_g9_0
    have k11_g9_1 := bcs hb11 k10_g9_1
    have g11_g9_1 := bfs hb11 k10_g9_1 g10_g9_1
    have k11_g10_0 := bcs hb11 k10_g10_0
    have g11_g10_0 := bfs hb11 k10_g10_0 g10_g10_0
    have k11_g10_1 := bcs hb11 k10_g10_1
    have g11_g10_1 := bfs hb11 k10_g10_1 g10_g10_1
    clear h0 h1 h2 h3 h4 h5 h6 h7 h8 h9 h10 h11 h12 h13 h14 h15 h16 h17 h18 h19 h20 h21 h22 h23
    have B11 := bel_step B10 hb11
    have z11 := Nat.le_trans z10 hb11.size
    clear hb11
    (try clear B10)
    (try clear z10)
    (try clear k10_b3_0)
    (try clear g10_b3_0)
    (try clear k10_b3_1)
    (try clear g10_b3_1)
    (try clear k10_b4_0)
    (try clear g10_b4_0)
    (try clear k10_b4_1)
    (try clear g10_b4_1)
    (try clear k10_b5_0)
    (try clear g10_b5_0)
    (try clear k10_b5_1)
    (try clear g10_b5_1)
    (try clear k10_g8_0)
    (try clear g10_g8_0)
    (try clear k10_g8_1)
    (try clear g10_g8_1)
    (try clear k10_g9_0)
    (try clear g10_g9_0)
    (try clear k10_g9_1)
    (try clear g10_g9_1)
    (try clear k10_g10_0)
    (try clear g10_g10_0)
    (try clear k10_g10_1)
    (try clear g10_g10_1)
    (try clear q10_b3)
    (try clear x10_b3)
    (try clear y10_b3)
    (try clear q10_b4)
    (try clear x10_b4)
    (try clear y10_b4)
    (try clear q10_b5)
    (try clear x10_b5)
    (try clear y10_b5)
    (try clear q10_g8)
    (try clear x10_g8)
    (try clear y10_g8)
    (try clear q10_g9)
    (try clear x10_g9)
    (try clear y10_g9)
    (try clear q10_g10)
    (try clear x10_g10)
    (try clear y10_g10)
    have q11_b3 : w.heap.size < w11.heap.size := qlt k11_b3_0
    have x11_b3 : ¬ w.heap.size = w11.heap.size := qne k11_b3_0
    have y11_b3 : ¬ w11.heap.size = w.heap.size := fun h => qne k11_b3_0 h.symm
    have q11_b4 : w.heap.size + 1 < w11.heap.size := qlt k11_b4_0
    have x11_b4 : ¬ w.heap.size + 1 = w11.heap.size := qne k11_b4_0
    have y11_b4 : ¬ w11.heap.size = w.heap.size + 1 := fun h => qne k11_b4_0 h.symm
    have q11_b5 : w.heap.size + 1 + 1 < w11.heap.size := qlt k11_b5_0
    have x11_b5 : ¬ w.heap.size + 1 + 1 = w11.heap.size := qne k11_b5_0
    have y11_b5 : ¬ w11.heap.size = w.heap.size + 1 + 1 := fun h => qne k11_b5_0 h.symm
    have q11_g8 : g8 < w11.heap.size := qlt k11_g8_0
    have x11_g8 : ¬ g8 = w11.heap.size := qne k11_g8_0
    have y11_g8 : ¬ w11.heap.size = g8 := fun h => qne k11_g8_0 h.symm
    have q11_g9 : g9 < w11.heap.size := qlt k11_g9_0
    have x11_g9 : ¬ g9 = w11.heap.size := qne k11_g9_0
    have y11_g9 : ¬ w11.heap.size = g9 := fun h => qne k11_g9_0 h.symm
    have q11_g10 : g10 < w11.heap.size := qlt k11_g10_0
    have x11_g10 : ¬ g10 = w11.heap.size := qne k11_g10_0
    have y11_g10 : ¬ w11.heap.size = g10 := fun h => qne k11_g10_0 h.symm
    go_wp2
    go_ret
    refine ⟨rfl, ?_⟩
    repeat (first | with_reducible exact Below.refl _ _ | with_reducible exact B11 | with_reducible apply below_drewN | with_reducible apply Below.drew | (with_reducible refine Below.alloc ?_ (by first | (simp; done) | (simp; omega) | omega) _) | (with_reducible refine Below.setCell ?_ (by first | (simp; done) | (simp; omega) | omega) _))
end Go.Proofs.Ytahdnlebokmajaa
