import Derived.Test.YtbipanhgjbnljaaR3
import Derived.WalkKit
import Derived.WalkSpells
import Derived.WalkLawsBesides
import Derived.Lib.Hide
import Derived.Below
import Derived.Deep.QuietTactic
import Derived.BigQuiet
import Derived.Deep.RegionHeld3
import Derived.Deep.DrawnRows
import Derived.Deep.DeepFit
import Derived.IntWalk
namespace Go.Proofs.Ytbipanhgjbnljaa
open Go.RowKit
set_option linter.unusedVariables false
set_option linter.unusedSimpArgs false
attribute [local go_sem ↓] Go.wp_at_zero Go.wp_at_succ
attribute [local go_sem] rhoF_tmp rhoF_const rhoF_global rhoF_func

set_option maxHeartbeats 1000000 in
theorem clamp_any (n K r : Int) (h0 : 0 ≤ K) (h1 : K ≤ 16384) (hr : max (-K) (min n K) = r) (w : World) :
    Calls Try.prog 35 #[.int .i64 n, .int .i64 K] w fun e w' => e = .returned (.int .i64 r) ∧ w = w' := by
  obtain ⟨m, hm⟩ : ∃ x, min n K = x := ⟨_, rfl⟩
  rw [hm] at hr
  have g0 : (if K < n then K else n) = m := by rw [← hm]; omega
  have g1 : (if -K < m then m else -K) = r := by rw [← hr]; omega
  go_enter Try.func35, Try.ntmps35
  go_wp2
  go_ret
  exact ⟨rfl, rfl⟩

set_option maxHeartbeats 1000000 in
theorem clip_any (n r : Int) (hr : max (-4096) (min n 4096) = r) (w : World) :
    Calls Try.prog 36 #[.int .i64 n] w fun e w' => e = .returned (.int .i64 r) ∧ w = w' := by
  have q1 := fun w => clamp_any n 4096 r (by omega) (by omega) hr w
  clear hr
  go_enter Try.func36, Try.ntmps36
  go_wp2_with (first | (go_at_call 35; (with_reducible refine (q1 _).mono ?_); rintro e w9 ⟨rfl, rfl⟩))
  go_ret
  exact ⟨rfl, rfl⟩

set_option maxHeartbeats 1000000 in
theorem rclamp_any (n l u r : Int) (hr : max l (min u n) = r) (w : World) :
    Calls Try.prog 37 #[.int .i64 n, .int .i64 l, .int .i64 u] w fun e w' => e = .returned (.int .i64 r) ∧ w = w' := by
  obtain ⟨m, hm⟩ : ∃ x, min u n = x := ⟨_, rfl⟩
  rw [hm] at hr
  have g0 : (if n < u then n else u) = m := by rw [← hm]; omega
  have g1 : (if l < m then m else l) = r := by rw [← hr]; omega
  go_enter Try.func37, Try.ntmps37
  go_wp2
  go_ret
  exact ⟨rfl, rfl⟩

set_option maxHeartbeats 4000000 in
theorem outset_any (a b c d n k o0 o1 o2 o3 : Int) (hk : max (-16384) (min n 16384) = k) (j0 : max (-4096) (min (a - k) 4096) = o0) (j1 : max (-4096) (min (b - k) 4096) = o1) (j2 : max (-4096) (min (c + k) 4096) = o2) (j3 : max (-4096) (min (d + k) 4096) = o3) (w : World) :
    Calls Try.prog 27 #[.agg #[.int .i64 a, .int .i64 b, .int .i64 c, .int .i64 d], .int .i64 n] w fun e w' => e = .returned (.agg #[.int .i64 (cn (eR a b c d) (cn (eR o0 o1 o2 o3) o0)), .int .i64 (cn (eR a b c d) (cn (eR o0 o1 o2 o3) o1)), .int .i64 (cn (eR a b c d) (cn (eR o0 o1 o2 o3) o2)), .int .i64 (cn (eR a b c d) (cn (eR o0 o1 o2 o3) o3))]) ∧ Below w.heap.size w w' := by
  have c1 := fun w => empty_any a b c d w
  cases ea : eR a b c d with
  | true =>
    rw [ea] at c1
    simp only [cn_true]
    clear j0 j1 j2 j3 hk ea
    go_enter Try.func27, Try.ntmps27
    go_wp2_with (first | (go_at_call 10; (with_reducible refine (c1 _).mono ?_); rintro e w1 ⟨rfl, hb1⟩; have k1_b2_0 : w1.cell? ⟨w.heap.size, 0, none⟩ = some (.int .i64 a) := bcs hb1 (by go_simp); have g1_b2_0 : w1.frozen? ⟨w.heap.size, 0, none⟩ = false := bfs hb1 (v := .int .i64 a) (by go_simp) (by go_simp); have k1_b2_1 : w1.cell? ⟨w.heap.size, 1, none⟩ = some (.int .i64 b) := bcs hb1 (by go_simp); have g1_b2_1 : w1.frozen? ⟨w.heap.size, 1, none⟩ = false := bfs hb1 (v := .int .i64 b) (by go_simp) (by go_simp); have k1_b2_2 : w1.cell? ⟨w.heap.size, 2, none⟩ = some (.int .i64 c) := bcs hb1 (by go_simp); have g1_b2_2 : w1.frozen? ⟨w.heap.size, 2, none⟩ = false := bfs hb1 (v := .int .i64 c) (by go_simp) (by go_simp); have k1_b2_3 : w1.cell? ⟨w.heap.size, 3, none⟩ = some (.int .i64 d) := bcs hb1 (by go_simp); have g1_b2_3 : w1.frozen? ⟨w.heap.size, 3, none⟩ = false := bfs hb1 (v := .int .i64 d) (by go_simp) (by go_simp); have k1_b4_0 : w1.cell? ⟨w.heap.size + 1, 0, none⟩ = some (.int .i64 0) := bcs hb1 (by go_simp); have g1_b4_0 : w1.frozen? ⟨w.heap.size + 1, 0, none⟩ = false := bfs hb1 (v := .int .i64 0) (by go_simp) (by go_simp); have k1_b4_1 : w1.cell? ⟨w.heap.size + 1, 1, none⟩ = some (.int .i64 0) := bcs hb1 (by go_simp); have g1_b4_1 : w1.frozen? ⟨w.heap.size + 1, 1, none⟩ = false := bfs hb1 (v := .int .i64 0) (by go_simp) (by go_simp); have k1_b4_2 : w1.cell? ⟨w.heap.size + 1, 2, none⟩ = some (.int .i64 0) := bcs hb1 (by go_simp); have g1_b4_2 : w1.frozen? ⟨w.heap.size + 1, 2, none⟩ = false := bfs hb1 (v := .int .i64 0) (by go_simp) (by go_simp); have k1_b4_3 : w1.cell? ⟨w.heap.size + 1, 3, none⟩ = some (.int .i64 0) := bcs hb1 (by go_simp); have g1_b4_3 : w1.frozen? ⟨w.heap.size + 1, 3, none⟩ = false := bfs hb1 (v := .int .i64 0) (by go_simp) (by go_simp); have q1_b2 : w.heap.size < w1.heap.size := qlt k1_b2_0; have x1_b2 : ¬ w.heap.size = w1.heap.size := qne k1_b2_0; have y1_b2 : ¬ w1.heap.size = w.heap.size := fun h => qne k1_b2_0 h.symm; have q1_b4 : w.heap.size + 1 < w1.heap.size := qlt k1_b4_0; have x1_b4 : ¬ w.heap.size + 1 = w1.heap.size := qne k1_b4_0; have y1_b4 : ¬ w1.heap.size = w.heap.size + 1 := fun h => qne k1_b4_0 h.symm; have B1 : Below w.heap.size w w1 := bel_step (by repeat (first | with_reducible exact Below.refl _ _ | fail | with_reducible apply below_drewN | with_reducible apply Below.drew | (with_reducible refine Below.alloc ?_ (by first | (simp; done) | (simp; omega) | omega) _) | (with_reducible refine Below.setCell ?_ (by first | (simp; done) | (simp; omega) | omega) _))) hb1; have z1 : w.heap.size + 1 + 1 ≤ w1.heap.size := Nat.le_trans (by first | with_reducible assumption | (simp; done) | (simp; omega)) hb1.size; clear hb1))
    refine bodyPost_ret (v := .agg #[.int .i64 0, .int .i64 0, .int .i64 0, .int .i64 0]) (by simp [results, Try.results27, go_sem, *]) rfl ⟨rfl, ?_⟩
    repeat (first | with_reducible exact Below.refl _ _ | with_reducible exact B1 | with_reducible apply below_drewN | with_reducible apply Below.drew | (with_reducible refine Below.alloc ?_ (by first | (simp; done) | (simp; omega) | omega) _) | (with_reducible refine Below.setCell ?_ (by first | (simp; done) | (simp; omega) | omega) _))
  | false =>
    have kk := (eR_false a b c d).1 ea
    have c3 := fun w => canon_any o0 o1 o2 o3 w
    have ck := fun w => clamp_any n 16384 k (by omega) (by omega) hk w
    have kb : -16384 ≤ k ∧ k ≤ 16384 := by omega
    have q0 := fun w => clip_any (a - k) o0 j0 w
    have q1 := fun w => clip_any (b - k) o1 j1 w
    have q2 := fun w => clip_any (c + k) o2 j2 w
    have q3 := fun w => clip_any (d + k) o3 j3 w
    rw [ea] at c1
    simp only [cn_false]
    obtain ⟨O0, eO0⟩ : ∃ x, cn (eR o0 o1 o2 o3) o0 = x := ⟨_, rfl⟩
    obtain ⟨O1, eO1⟩ : ∃ x, cn (eR o0 o1 o2 o3) o1 = x := ⟨_, rfl⟩
    obtain ⟨O2, eO2⟩ : ∃ x, cn (eR o0 o1 o2 o3) o2 = x := ⟨_, rfl⟩
    obtain ⟨O3, eO3⟩ : ∃ x, cn (eR o0 o1 o2 o3) o3 = x := ⟨_, rfl⟩
    rw [eO0, eO1, eO2, eO3] at c3 ⊢
    clear eO0 eO1 eO2 eO3 j0 j1 j2 j3 hk ea
    go_enter Try.func27, Try.ntmps27
    go_wp2_with (first | (go_at_call 10; (with_reducible refine (c1 _).mono ?_); rintro e w1 ⟨rfl, hb1⟩; have k1_b2_0 : w1.cell? ⟨w.heap.size, 0, none⟩ = some (.int .i64 a) := bcs hb1 (by go_simp); have g1_b2_0 : w1.frozen? ⟨w.heap.size, 0, none⟩ = false := bfs hb1 (v := .int .i64 a) (by go_simp) (by go_simp); have k1_b2_1 : w1.cell? ⟨w.heap.size, 1, none⟩ = some (.int .i64 b) := bcs hb1 (by go_simp); have g1_b2_1 : w1.frozen? ⟨w.heap.size, 1, none⟩ = false := bfs hb1 (v := .int .i64 b) (by go_simp) (by go_simp); have k1_b2_2 : w1.cell? ⟨w.heap.size, 2, none⟩ = some (.int .i64 c) := bcs hb1 (by go_simp); have g1_b2_2 : w1.frozen? ⟨w.heap.size, 2, none⟩ = false := bfs hb1 (v := .int .i64 c) (by go_simp) (by go_simp); have k1_b2_3 : w1.cell? ⟨w.heap.size, 3, none⟩ = some (.int .i64 d) := bcs hb1 (by go_simp); have g1_b2_3 : w1.frozen? ⟨w.heap.size, 3, none⟩ = false := bfs hb1 (v := .int .i64 d) (by go_simp) (by go_simp); have k1_b4_0 : w1.cell? ⟨w.heap.size + 1, 0, none⟩ = some (.int .i64 0) := bcs hb1 (by go_simp); have g1_b4_0 : w1.frozen? ⟨w.heap.size + 1, 0, none⟩ = false := bfs hb1 (v := .int .i64 0) (by go_simp) (by go_simp); have k1_b4_1 : w1.cell? ⟨w.heap.size + 1, 1, none⟩ = some (.int .i64 0) := bcs hb1 (by go_simp); have g1_b4_1 : w1.frozen? ⟨w.heap.size + 1, 1, none⟩ = false := bfs hb1 (v := .int .i64 0) (by go_simp) (by go_simp); have k1_b4_2 : w1.cell? ⟨w.heap.size + 1, 2, none⟩ = some (.int .i64 0) := bcs hb1 (by go_simp); have g1_b4_2 : w1.frozen? ⟨w.heap.size + 1, 2, none⟩ = false := bfs hb1 (v := .int .i64 0) (by go_simp) (by go_simp); have k1_b4_3 : w1.cell? ⟨w.heap.size + 1, 3, none⟩ = some (.int .i64 0) := bcs hb1 (by go_simp); have g1_b4_3 : w1.frozen? ⟨w.heap.size + 1, 3, none⟩ = false := bfs hb1 (v := .int .i64 0) (by go_simp) (by go_simp); have q1_b2 : w.heap.size < w1.heap.size := qlt k1_b2_0; have x1_b2 : ¬ w.heap.size = w1.heap.size := qne k1_b2_0; have y1_b2 : ¬ w1.heap.size = w.heap.size := fun h => qne k1_b2_0 h.symm; have q1_b4 : w.heap.size + 1 < w1.heap.size := qlt k1_b4_0; have x1_b4 : ¬ w.heap.size + 1 = w1.heap.size := qne k1_b4_0; have y1_b4 : ¬ w1.heap.size = w.heap.size + 1 := fun h => qne k1_b4_0 h.symm; have B1 : Below w.heap.size w w1 := bel_step (by repeat (first | with_reducible exact Below.refl _ _ | fail | with_reducible apply below_drewN | with_reducible apply Below.drew | (with_reducible refine Below.alloc ?_ (by first | (simp; done) | (simp; omega) | omega) _) | (with_reducible refine Below.setCell ?_ (by first | (simp; done) | (simp; omega) | omega) _))) hb1; have z1 : w.heap.size + 1 + 1 ≤ w1.heap.size := Nat.le_trans (by first | with_reducible assumption | (simp; done) | (simp; omega)) hb1.size; clear hb1) | (go_at_call 35; (with_reducible refine (ck _).mono ?_); rintro e w9 ⟨rfl, rfl⟩))
    refine wp_region_env (fun w' => w'.cell? ⟨w.heap.size, 0, none⟩ = some (.int .i64 a) ∧ w'.frozen? ⟨w.heap.size, 0, none⟩ = false ∧ w'.cell? ⟨w.heap.size, 1, none⟩ = some (.int .i64 b) ∧ w'.frozen? ⟨w.heap.size, 1, none⟩ = false ∧ w'.cell? ⟨w.heap.size, 2, none⟩ = some (.int .i64 c) ∧ w'.frozen? ⟨w.heap.size, 2, none⟩ = false ∧ w'.cell? ⟨w.heap.size, 3, none⟩ = some (.int .i64 d) ∧ w'.frozen? ⟨w.heap.size, 3, none⟩ = false ∧ w'.cell? ⟨w.heap.size + 1, 0, none⟩ = some (.int .i64 0) ∧ w'.frozen? ⟨w.heap.size + 1, 0, none⟩ = false ∧ w'.cell? ⟨w.heap.size + 1, 1, none⟩ = some (.int .i64 0) ∧ w'.frozen? ⟨w.heap.size + 1, 1, none⟩ = false ∧ w'.cell? ⟨w.heap.size + 1, 2, none⟩ = some (.int .i64 0) ∧ w'.frozen? ⟨w.heap.size + 1, 2, none⟩ = false ∧ w'.cell? ⟨w.heap.size + 1, 3, none⟩ = some (.int .i64 0) ∧ w'.frozen? ⟨w.heap.size + 1, 3, none⟩ = false) (fun W => W.cell? ⟨w.heap.size, 0, none⟩ = some (.int .i64 a) ∧ W.frozen? ⟨w.heap.size, 0, none⟩ = false ∧ W.cell? ⟨w.heap.size, 1, none⟩ = some (.int .i64 b) ∧ W.frozen? ⟨w.heap.size, 1, none⟩ = false ∧ W.cell? ⟨w.heap.size, 2, none⟩ = some (.int .i64 c) ∧ W.frozen? ⟨w.heap.size, 2, none⟩ = false ∧ W.cell? ⟨w.heap.size, 3, none⟩ = some (.int .i64 d) ∧ W.frozen? ⟨w.heap.size, 3, none⟩ = false ∧ W.cell? ⟨w.heap.size + 1, 0, none⟩ = some (.int .i64 0) ∧ W.frozen? ⟨w.heap.size + 1, 0, none⟩ = false ∧ W.cell? ⟨w.heap.size + 1, 1, none⟩ = some (.int .i64 0) ∧ W.frozen? ⟨w.heap.size + 1, 1, none⟩ = false ∧ W.cell? ⟨w.heap.size + 1, 2, none⟩ = some (.int .i64 0) ∧ W.frozen? ⟨w.heap.size + 1, 2, none⟩ = false ∧ W.cell? ⟨w.heap.size + 1, 3, none⟩ = some (.int .i64 0) ∧ W.frozen? ⟨w.heap.size + 1, 3, none⟩ = false ∧ Below w.heap.size w W ∧ w.heap.size + 1 + 1 ≤ W.heap.size) 22 32 [.val (.pointer (some ⟨w.heap.size, 0, none⟩)), .val (.int .i64 a), .val (.int .i64 k), .val (.int .i64 (a - k)), .call 36 #[.int .i64 (a - k)] (.int .i64 o0), .val (.pointer (some ⟨w.heap.size, 1, none⟩)), .val (.int .i64 b), .val (.int .i64 k), .val (.int .i64 (b - k)), .call 36 #[.int .i64 (b - k)] (.int .i64 o1), .val (.pointer (some ⟨w.heap.size, 2, none⟩)), .val (.int .i64 c), .val (.int .i64 k), .val (.int .i64 (c + k)), .call 36 #[.int .i64 (c + k)] (.int .i64 o2), .val (.pointer (some ⟨w.heap.size, 3, none⟩)), .val (.int .i64 d), .val (.int .i64 k), .val (.int .i64 (d + k)), .call 36 #[.int .i64 (d + k)] (.int .i64 o3), .val (.agg #[.int .i64 o0, .int .i64 o1, .int .i64 o2, .int .i64 o3]), .call 12 #[.agg #[.int .i64 o0, .int .i64 o1, .int .i64 o2, .int .i64 o3]] (.agg #[.int .i64 O0, .int .i64 O1, .int .i64 O2, .int .i64 O3])] (by kernel_rfl) (by kernel_rfl) rfl (by kernel_rfl) (by rintro w1 w2 ⟨h0, h1, h2, h3, h4, h5, h6, h7, h8, h9, h10, h11, h12, h13, h14, h15⟩ hb; exact ⟨bcs hb h0, bfs hb h0 h1, bcs hb h2, bfs hb h2 h3, bcs hb h4, bfs hb h4 h5, bcs hb h6, bfs hb h6 h7, bcs hb h8, bfs hb h8 h9, bcs hb h10, bfs hb h10 h11, bcs hb h12, bfs hb h12 h13, bcs hb h14, bfs hb h14 h15⟩) ⟨by first | with_reducible assumption | go_simp, by first | with_reducible assumption | go_simp, by first | with_reducible assumption | go_simp, by first | with_reducible assumption | go_simp, by first | with_reducible assumption | go_simp, by first | with_reducible assumption | go_simp, by first | with_reducible assumption | go_simp, by first | with_reducible assumption | go_simp, by first | with_reducible assumption | go_simp, by first | with_reducible assumption | go_simp, by first | with_reducible assumption | go_simp, by first | with_reducible assumption | go_simp, by first | with_reducible assumption | go_simp, by first | with_reducible assumption | go_simp, by first | with_reducible assumption | go_simp, by first | with_reducible assumption | go_simp, by repeat (first | with_reducible exact Below.refl _ _ | with_reducible exact B1 | with_reducible apply below_drewN | with_reducible apply Below.drew | (with_reducible refine Below.alloc ?_ (by first | (simp; done) | (simp; omega) | omega) _) | (with_reducible refine Below.setCell ?_ (by first | (simp; done) | (simp; omega) | omega) _)), by first | with_reducible assumption | (simp; done) | (simp; omega)⟩ ?_ ?_
    · rintro W ⟨k2_b2_0, g2_b2_0, k2_b2_1, g2_b2_1, k2_b2_2, g2_b2_2, k2_b2_3, g2_b2_3, k2_b4_0, g2_b4_0, k2_b4_1, g2_b4_1, k2_b4_2, g2_b4_2, k2_b4_3, g2_b4_3, B2, z2⟩; exact ⟨k2_b2_0, g2_b2_0, k2_b2_1, g2_b2_1, k2_b2_2, g2_b2_2, k2_b2_3, g2_b2_3, k2_b4_0, g2_b4_0, k2_b4_1, g2_b4_1, k2_b4_2, g2_b4_2, k2_b4_3, g2_b4_3⟩
    (try clear B1)
    (try clear z1)
    (try clear k1_b2_0)
    (try clear g1_b2_0)
    (try clear k1_b2_1)
    (try clear g1_b2_1)
    (try clear k1_b2_2)
    (try clear g1_b2_2)
    (try clear k1_b2_3)
    (try clear g1_b2_3)
    (try clear k1_b4_0)
    (try clear g1_b4_0)
    (try clear k1_b4_1)
    (try clear g1_b4_1)
    (try clear k1_b4_2)
    (try clear g1_b4_2)
    (try clear k1_b4_3)
    (try clear g1_b4_3)
    (try clear q1_b2)
    (try clear x1_b2)
    (try clear y1_b2)
    (try clear q1_b4)
    (try clear x1_b4)
    (try clear y1_b4)
    rintro w2 ⟨k2_b2_0, g2_b2_0, k2_b2_1, g2_b2_1, k2_b2_2, g2_b2_2, k2_b2_3, g2_b2_3, k2_b4_0, g2_b4_0, k2_b4_1, g2_b4_1, k2_b4_2, g2_b4_2, k2_b4_3, g2_b4_3, B2, z2⟩ gg
    simp only [List.take_succ_cons, List.take_zero, List.drop_succ_cons, List.drop_zero, List.cons_append, List.nil_append, List.append_nil]
    refine obe_val (by rfl) ?_ ?_
    · clear k2_b2_0 g2_b2_0 k2_b2_1 g2_b2_1 k2_b2_2 g2_b2_2 k2_b2_3 g2_b2_3 k2_b4_0 g2_b4_0 k2_b4_1 g2_b4_1 k2_b4_2 g2_b4_2 k2_b4_3 g2_b4_3 B2 z2; intro f hf; have u2 : f 2 = (.pointer (some ⟨w.heap.size, 0, none⟩)) := (by rw [← hf]; rfl); clear hf; rintro w' ⟨h0, h1, h2, h3, h4, h5, h6, h7, h8, h9, h10, h11, h12, h13, h14, h15⟩; go_simp; try exact IntWalk.i64_in _ (by omega)
    refine obe_val (by rfl) ?_ ?_
    · clear k2_b2_0 g2_b2_0 k2_b2_1 g2_b2_1 k2_b2_2 g2_b2_2 k2_b2_3 g2_b2_3 k2_b4_0 g2_b4_0 k2_b4_1 g2_b4_1 k2_b4_2 g2_b4_2 k2_b4_3 g2_b4_3 B2 z2; intro f hf; have u10 : f 10 = (.pointer (some ⟨w.heap.size, 0, none⟩)) := (by rw [← hf]; rfl); clear hf; rintro w' ⟨h0, h1, h2, h3, h4, h5, h6, h7, h8, h9, h10, h11, h12, h13, h14, h15⟩; go_simp; try exact IntWalk.i64_in _ (by omega)
    refine obe_val (by rfl) ?_ ?_
    · clear k2_b2_0 g2_b2_0 k2_b2_1 g2_b2_1 k2_b2_2 g2_b2_2 k2_b2_3 g2_b2_3 k2_b4_0 g2_b4_0 k2_b4_1 g2_b4_1 k2_b4_2 g2_b4_2 k2_b4_3 g2_b4_3 B2 z2; intro f hf; have u1 : f 1 = (.int .i64 k) := (by rw [← hf]; rfl); clear hf; rintro w' ⟨h0, h1, h2, h3, h4, h5, h6, h7, h8, h9, h10, h11, h12, h13, h14, h15⟩; go_simp; try exact IntWalk.i64_in _ (by omega)
    refine obe_val (by rfl) ?_ ?_
    · clear k2_b2_0 g2_b2_0 k2_b2_1 g2_b2_1 k2_b2_2 g2_b2_2 k2_b2_3 g2_b2_3 k2_b4_0 g2_b4_0 k2_b4_1 g2_b4_1 k2_b4_2 g2_b4_2 k2_b4_3 g2_b4_3 B2 z2; intro f hf; have u11 : f 11 = (.int .i64 a) := (by rw [← hf]; rfl); have u12 : f 12 = (.int .i64 k) := (by rw [← hf]; rfl); clear hf; rintro w' ⟨h0, h1, h2, h3, h4, h5, h6, h7, h8, h9, h10, h11, h12, h13, h14, h15⟩; go_simp; try exact IntWalk.i64_in _ (by omega)
    refine obe_call (by rfl) ?_ ?_ ?_
    · clear k2_b2_0 g2_b2_0 k2_b2_1 g2_b2_1 k2_b2_2 g2_b2_2 k2_b2_3 g2_b2_3 k2_b4_0 g2_b4_0 k2_b4_1 g2_b4_1 k2_b4_2 g2_b4_2 k2_b4_3 g2_b4_3 B2 z2; intro f hf; have u13 : f 13 = (.int .i64 (a - k)) := (by rw [← hf]; rfl); clear hf; intro w' _; simp only [execOp, resolve, invoke, rhoF_tmp, rhoF_func, rhoF_const, u13, List.map_toArray, List.map_cons, List.map_nil]; go_simp
    · clear k2_b2_0 g2_b2_0 k2_b2_1 g2_b2_1 k2_b2_2 g2_b2_2 k2_b2_3 g2_b2_3 k2_b4_0 g2_b4_0 k2_b4_1 g2_b4_1 k2_b4_2 g2_b4_2 k2_b4_3 g2_b4_3 B2 z2; rintro w' ⟨h0, h1, h2, h3, h4, h5, h6, h7, h8, h9, h10, h11, h12, h13, h14, h15⟩; exact (q0 _).mono (by rintro e w2 ⟨rfl, rfl⟩; exact ⟨rfl, Below.refl _ _⟩)
    refine obe_val (by rfl) ?_ ?_
    · clear k2_b2_0 g2_b2_0 k2_b2_1 g2_b2_1 k2_b2_2 g2_b2_2 k2_b2_3 g2_b2_3 k2_b4_0 g2_b4_0 k2_b4_1 g2_b4_1 k2_b4_2 g2_b4_2 k2_b4_3 g2_b4_3 B2 z2; intro f hf; have u2 : f 2 = (.pointer (some ⟨w.heap.size, 0, none⟩)) := (by rw [← hf]; rfl); clear hf; rintro w' ⟨h0, h1, h2, h3, h4, h5, h6, h7, h8, h9, h10, h11, h12, h13, h14, h15⟩; go_simp; try exact IntWalk.i64_in _ (by omega)
    refine obe_val (by rfl) ?_ ?_
    · clear k2_b2_0 g2_b2_0 k2_b2_1 g2_b2_1 k2_b2_2 g2_b2_2 k2_b2_3 g2_b2_3 k2_b4_0 g2_b4_0 k2_b4_1 g2_b4_1 k2_b4_2 g2_b4_2 k2_b4_3 g2_b4_3 B2 z2; intro f hf; have u15 : f 15 = (.pointer (some ⟨w.heap.size, 1, none⟩)) := (by rw [← hf]; rfl); clear hf; rintro w' ⟨h0, h1, h2, h3, h4, h5, h6, h7, h8, h9, h10, h11, h12, h13, h14, h15⟩; go_simp; try exact IntWalk.i64_in _ (by omega)
    refine obe_val (by rfl) ?_ ?_
    · clear k2_b2_0 g2_b2_0 k2_b2_1 g2_b2_1 k2_b2_2 g2_b2_2 k2_b2_3 g2_b2_3 k2_b4_0 g2_b4_0 k2_b4_1 g2_b4_1 k2_b4_2 g2_b4_2 k2_b4_3 g2_b4_3 B2 z2; intro f hf; have u1 : f 1 = (.int .i64 k) := (by rw [← hf]; rfl); clear hf; rintro w' ⟨h0, h1, h2, h3, h4, h5, h6, h7, h8, h9, h10, h11, h12, h13, h14, h15⟩; go_simp; try exact IntWalk.i64_in _ (by omega)
    refine obe_val (by rfl) ?_ ?_
    · clear k2_b2_0 g2_b2_0 k2_b2_1 g2_b2_1 k2_b2_2 g2_b2_2 k2_b2_3 g2_b2_3 k2_b4_0 g2_b4_0 k2_b4_1 g2_b4_1 k2_b4_2 g2_b4_2 k2_b4_3 g2_b4_3 B2 z2; intro f hf; have u16 : f 16 = (.int .i64 b) := (by rw [← hf]; rfl); have u17 : f 17 = (.int .i64 k) := (by rw [← hf]; rfl); clear hf; rintro w' ⟨h0, h1, h2, h3, h4, h5, h6, h7, h8, h9, h10, h11, h12, h13, h14, h15⟩; go_simp; try exact IntWalk.i64_in _ (by omega)
    refine obe_call (by rfl) ?_ ?_ ?_
    · clear k2_b2_0 g2_b2_0 k2_b2_1 g2_b2_1 k2_b2_2 g2_b2_2 k2_b2_3 g2_b2_3 k2_b4_0 g2_b4_0 k2_b4_1 g2_b4_1 k2_b4_2 g2_b4_2 k2_b4_3 g2_b4_3 B2 z2; intro f hf; have u18 : f 18 = (.int .i64 (b - k)) := (by rw [← hf]; rfl); clear hf; intro w' _; simp only [execOp, resolve, invoke, rhoF_tmp, rhoF_func, rhoF_const, u18, List.map_toArray, List.map_cons, List.map_nil]; go_simp
    · clear k2_b2_0 g2_b2_0 k2_b2_1 g2_b2_1 k2_b2_2 g2_b2_2 k2_b2_3 g2_b2_3 k2_b4_0 g2_b4_0 k2_b4_1 g2_b4_1 k2_b4_2 g2_b4_2 k2_b4_3 g2_b4_3 B2 z2; rintro w' ⟨h0, h1, h2, h3, h4, h5, h6, h7, h8, h9, h10, h11, h12, h13, h14, h15⟩; exact (q1 _).mono (by rintro e w2 ⟨rfl, rfl⟩; exact ⟨rfl, Below.refl _ _⟩)
    refine obe_val (by rfl) ?_ ?_
    · clear k2_b2_0 g2_b2_0 k2_b2_1 g2_b2_1 k2_b2_2 g2_b2_2 k2_b2_3 g2_b2_3 k2_b4_0 g2_b4_0 k2_b4_1 g2_b4_1 k2_b4_2 g2_b4_2 k2_b4_3 g2_b4_3 B2 z2; intro f hf; have u2 : f 2 = (.pointer (some ⟨w.heap.size, 0, none⟩)) := (by rw [← hf]; rfl); clear hf; rintro w' ⟨h0, h1, h2, h3, h4, h5, h6, h7, h8, h9, h10, h11, h12, h13, h14, h15⟩; go_simp; try exact IntWalk.i64_in _ (by omega)
    refine obe_val (by rfl) ?_ ?_
    · clear k2_b2_0 g2_b2_0 k2_b2_1 g2_b2_1 k2_b2_2 g2_b2_2 k2_b2_3 g2_b2_3 k2_b4_0 g2_b4_0 k2_b4_1 g2_b4_1 k2_b4_2 g2_b4_2 k2_b4_3 g2_b4_3 B2 z2; intro f hf; have u20 : f 20 = (.pointer (some ⟨w.heap.size, 2, none⟩)) := (by rw [← hf]; rfl); clear hf; rintro w' ⟨h0, h1, h2, h3, h4, h5, h6, h7, h8, h9, h10, h11, h12, h13, h14, h15⟩; go_simp; try exact IntWalk.i64_in _ (by omega)
    refine obe_val (by rfl) ?_ ?_
    · clear k2_b2_0 g2_b2_0 k2_b2_1 g2_b2_1 k2_b2_2 g2_b2_2 k2_b2_3 g2_b2_3 k2_b4_0 g2_b4_0 k2_b4_1 g2_b4_1 k2_b4_2 g2_b4_2 k2_b4_3 g2_b4_3 B2 z2; intro f hf; have u1 : f 1 = (.int .i64 k) := (by rw [← hf]; rfl); clear hf; rintro w' ⟨h0, h1, h2, h3, h4, h5, h6, h7, h8, h9, h10, h11, h12, h13, h14, h15⟩; go_simp; try exact IntWalk.i64_in _ (by omega)
    refine obe_val (by rfl) ?_ ?_
    · clear k2_b2_0 g2_b2_0 k2_b2_1 g2_b2_1 k2_b2_2 g2_b2_2 k2_b2_3 g2_b2_3 k2_b4_0 g2_b4_0 k2_b4_1 g2_b4_1 k2_b4_2 g2_b4_2 k2_b4_3 g2_b4_3 B2 z2; intro f hf; have u21 : f 21 = (.int .i64 c) := (by rw [← hf]; rfl); have u22 : f 22 = (.int .i64 k) := (by rw [← hf]; rfl); clear hf; rintro w' ⟨h0, h1, h2, h3, h4, h5, h6, h7, h8, h9, h10, h11, h12, h13, h14, h15⟩; go_simp; try exact IntWalk.i64_in _ (by omega)
    refine obe_call (by rfl) ?_ ?_ ?_
    · clear k2_b2_0 g2_b2_0 k2_b2_1 g2_b2_1 k2_b2_2 g2_b2_2 k2_b2_3 g2_b2_3 k2_b4_0 g2_b4_0 k2_b4_1 g2_b4_1 k2_b4_2 g2_b4_2 k2_b4_3 g2_b4_3 B2 z2; intro f hf; have u23 : f 23 = (.int .i64 (c + k)) := (by rw [← hf]; rfl); clear hf; intro w' _; simp only [execOp, resolve, invoke, rhoF_tmp, rhoF_func, rhoF_const, u23, List.map_toArray, List.map_cons, List.map_nil]; go_simp
    · clear k2_b2_0 g2_b2_0 k2_b2_1 g2_b2_1 k2_b2_2 g2_b2_2 k2_b2_3 g2_b2_3 k2_b4_0 g2_b4_0 k2_b4_1 g2_b4_1 k2_b4_2 g2_b4_2 k2_b4_3 g2_b4_3 B2 z2; rintro w' ⟨h0, h1, h2, h3, h4, h5, h6, h7, h8, h9, h10, h11, h12, h13, h14, h15⟩; exact (q2 _).mono (by rintro e w2 ⟨rfl, rfl⟩; exact ⟨rfl, Below.refl _ _⟩)
    refine obe_val (by rfl) ?_ ?_
    · clear k2_b2_0 g2_b2_0 k2_b2_1 g2_b2_1 k2_b2_2 g2_b2_2 k2_b2_3 g2_b2_3 k2_b4_0 g2_b4_0 k2_b4_1 g2_b4_1 k2_b4_2 g2_b4_2 k2_b4_3 g2_b4_3 B2 z2; intro f hf; have u2 : f 2 = (.pointer (some ⟨w.heap.size, 0, none⟩)) := (by rw [← hf]; rfl); clear hf; rintro w' ⟨h0, h1, h2, h3, h4, h5, h6, h7, h8, h9, h10, h11, h12, h13, h14, h15⟩; go_simp; try exact IntWalk.i64_in _ (by omega)
    refine obe_val (by rfl) ?_ ?_
    · clear k2_b2_0 g2_b2_0 k2_b2_1 g2_b2_1 k2_b2_2 g2_b2_2 k2_b2_3 g2_b2_3 k2_b4_0 g2_b4_0 k2_b4_1 g2_b4_1 k2_b4_2 g2_b4_2 k2_b4_3 g2_b4_3 B2 z2; intro f hf; have u25 : f 25 = (.pointer (some ⟨w.heap.size, 3, none⟩)) := (by rw [← hf]; rfl); clear hf; rintro w' ⟨h0, h1, h2, h3, h4, h5, h6, h7, h8, h9, h10, h11, h12, h13, h14, h15⟩; go_simp; try exact IntWalk.i64_in _ (by omega)
    refine obe_val (by rfl) ?_ ?_
    · clear k2_b2_0 g2_b2_0 k2_b2_1 g2_b2_1 k2_b2_2 g2_b2_2 k2_b2_3 g2_b2_3 k2_b4_0 g2_b4_0 k2_b4_1 g2_b4_1 k2_b4_2 g2_b4_2 k2_b4_3 g2_b4_3 B2 z2; intro f hf; have u1 : f 1 = (.int .i64 k) := (by rw [← hf]; rfl); clear hf; rintro w' ⟨h0, h1, h2, h3, h4, h5, h6, h7, h8, h9, h10, h11, h12, h13, h14, h15⟩; go_simp; try exact IntWalk.i64_in _ (by omega)
    refine obe_val (by rfl) ?_ ?_
    · clear k2_b2_0 g2_b2_0 k2_b2_1 g2_b2_1 k2_b2_2 g2_b2_2 k2_b2_3 g2_b2_3 k2_b4_0 g2_b4_0 k2_b4_1 g2_b4_1 k2_b4_2 g2_b4_2 k2_b4_3 g2_b4_3 B2 z2; intro f hf; have u26 : f 26 = (.int .i64 d) := (by rw [← hf]; rfl); have u27 : f 27 = (.int .i64 k) := (by rw [← hf]; rfl); clear hf; rintro w' ⟨h0, h1, h2, h3, h4, h5, h6, h7, h8, h9, h10, h11, h12, h13, h14, h15⟩; go_simp; try exact IntWalk.i64_in _ (by omega)
    refine obe_call (by rfl) ?_ ?_ ?_
    · clear k2_b2_0 g2_b2_0 k2_b2_1 g2_b2_1 k2_b2_2 g2_b2_2 k2_b2_3 g2_b2_3 k2_b4_0 g2_b4_0 k2_b4_1 g2_b4_1 k2_b4_2 g2_b4_2 k2_b4_3 g2_b4_3 B2 z2; intro f hf; have u28 : f 28 = (.int .i64 (d + k)) := (by rw [← hf]; rfl); clear hf; intro w' _; simp only [execOp, resolve, invoke, rhoF_tmp, rhoF_func, rhoF_const, u28, List.map_toArray, List.map_cons, List.map_nil]; go_simp
    · clear k2_b2_0 g2_b2_0 k2_b2_1 g2_b2_1 k2_b2_2 g2_b2_2 k2_b2_3 g2_b2_3 k2_b4_0 g2_b4_0 k2_b4_1 g2_b4_1 k2_b4_2 g2_b4_2 k2_b4_3 g2_b4_3 B2 z2; rintro w' ⟨h0, h1, h2, h3, h4, h5, h6, h7, h8, h9, h10, h11, h12, h13, h14, h15⟩; exact (q3 _).mono (by rintro e w2 ⟨rfl, rfl⟩; exact ⟨rfl, Below.refl _ _⟩)
    refine obe_val (by rfl) ?_ ?_
    · clear k2_b2_0 g2_b2_0 k2_b2_1 g2_b2_1 k2_b2_2 g2_b2_2 k2_b2_3 g2_b2_3 k2_b4_0 g2_b4_0 k2_b4_1 g2_b4_1 k2_b4_2 g2_b4_2 k2_b4_3 g2_b4_3 B2 z2; intro f hf; have u14 : f 14 = (.int .i64 o0) := (by rw [← hf]; rfl); have u19 : f 19 = (.int .i64 o1) := (by rw [← hf]; rfl); have u24 : f 24 = (.int .i64 o2) := (by rw [← hf]; rfl); have u29 : f 29 = (.int .i64 o3) := (by rw [← hf]; rfl); clear hf; rintro w' ⟨h0, h1, h2, h3, h4, h5, h6, h7, h8, h9, h10, h11, h12, h13, h14, h15⟩; go_simp; try exact IntWalk.i64_in _ (by omega)
    refine obe_call (by rfl) ?_ ?_ ?_
    · clear k2_b2_0 g2_b2_0 k2_b2_1 g2_b2_1 k2_b2_2 g2_b2_2 k2_b2_3 g2_b2_3 k2_b4_0 g2_b4_0 k2_b4_1 g2_b4_1 k2_b4_2 g2_b4_2 k2_b4_3 g2_b4_3 B2 z2; intro f hf; have u30 : f 30 = (.agg #[.int .i64 o0, .int .i64 o1, .int .i64 o2, .int .i64 o3]) := (by rw [← hf]; rfl); clear hf; intro w' _; simp only [execOp, resolve, invoke, rhoF_tmp, rhoF_func, rhoF_const, u30, List.map_toArray, List.map_cons, List.map_nil]; go_simp
    · clear k2_b2_0 g2_b2_0 k2_b2_1 g2_b2_1 k2_b2_2 g2_b2_2 k2_b2_3 g2_b2_3 k2_b4_0 g2_b4_0 k2_b4_1 g2_b4_1 k2_b4_2 g2_b4_2 k2_b4_3 g2_b4_3 B2 z2; rintro w' ⟨h0, h1, h2, h3, h4, h5, h6, h7, h8, h9, h10, h11, h12, h13, h14, h15⟩; exact c3 _
    refine obe_nil ?_
    rintro w3 ⟨h0, h1, h2, h3, h4, h5, h6, h7, h8, h9, h10, h11, h12, h13, h14, h15⟩ hb3 hF
    (try simp only [List.nil_append, List.append_nil, List.cons_append] at hF)
    simp only [puts, putD, Act.put, List.setIfInBounds_toArray, List.set_cons_zero, List.set_cons_succ]
    clear hF
    have k3_b2_0 := bcs hb3 k2_b2_0
    have g3_b2_0 := bfs hb3 k2_b2_0 g2_b2_0
    have k3_b2_1 := bcs hb3 k2_b2_1
    have g3_b2_1 := bfs hb3 k2_b2_1 g2_b2_1
    have k3_b2_2 := bcs hb3 k2_b2_2
    have g3_b2_2 := bfs hb3 k2_b2_2 g2_b2_2
    have k3_b2_3 := bcs hb3 k2_b2_3
    have g3_b2_3 := bfs hb3 k2_b2_3 g2_b2_3
    have k3_b4_0 := bcs hb3 k2_b4_0
    have g3_b4_0 := bfs hb3 k2_b4_0 g2_b4_0
    have k3_b4_1 := bcs hb3 k2_b4_1
    have g3_b4_1 := bfs hb3 k2_b4_1 g2_b4_1
    have k3_b4_2 := bcs hb3 k2_b4_2
    have g3_b4_2 := bfs hb3 k2_b4_2 g2_b4_2
    have k3_b4_3 := bcs hb3 k2_b4_3
    have g3_b4_3 := bfs hb3 k2_b4_3 g2_b4_3
    clear h0 h1 h2 h3 h4 h5 h6 h7 h8 h9 h10 h11 h12 h13 h14 h15
    have B3 := bel_step B2 hb3
    have z3 := Nat.le_trans z2 hb3.size
    clear hb3
    (try clear B2)
    (try clear z2)
    (try clear k2_b2_0)
    (try clear g2_b2_0)
    (try clear k2_b2_1)
    (try clear g2_b2_1)
    (try clear k2_b2_2)
    (try clear g2_b2_2)
    (try clear k2_b2_3)
    (try clear g2_b2_3)
    (try clear k2_b4_0)
    (try clear g2_b4_0)
    (try clear k2_b4_1)
    (try clear g2_b4_1)
    (try clear k2_b4_2)
    (try clear g2_b4_2)
    (try clear k2_b4_3)
    (try clear g2_b4_3)
    (try clear q2_b2)
    (try clear x2_b2)
    (try clear y2_b2)
    (try clear q2_b4)
    (try clear x2_b4)
    (try clear y2_b4)
    have q3_b2 : w.heap.size < w3.heap.size := qlt k3_b2_0
    have x3_b2 : ¬ w.heap.size = w3.heap.size := qne k3_b2_0
    have y3_b2 : ¬ w3.heap.size = w.heap.size := fun h => qne k3_b2_0 h.symm
    have q3_b4 : w.heap.size + 1 < w3.heap.size := qlt k3_b4_0
    have x3_b4 : ¬ w.heap.size + 1 = w3.heap.size := qne k3_b4_0
    have y3_b4 : ¬ w3.heap.size = w.heap.size + 1 := fun h => qne k3_b4_0 h.symm
    go_wp2
    refine bodyPost_ret (v := .agg #[.int .i64 O0, .int .i64 O1, .int .i64 O2, .int .i64 O3]) (by simp [results, Try.results27, go_sem, *]) rfl ⟨rfl, ?_⟩
    repeat (first | with_reducible exact Below.refl _ _ | with_reducible exact B3 | with_reducible apply below_drewN | with_reducible apply Below.drew | (with_reducible refine Below.alloc ?_ (by first | (simp; done) | (simp; omega) | omega) _) | (with_reducible refine Below.setCell ?_ (by first | (simp; done) | (simp; omega) | omega) _))

set_option maxHeartbeats 4000000 in
theorem routset_any (a b c d n k o0 o1 o2 o3 : Int) (hk : max (-16384) (min n 16384) = k) (j0 : max (-4096) (min (a - k) 4096) = o0) (j1 : max (-4096) (min (b - k) 4096) = o1) (j2 : max (-4096) (min (c + k) 4096) = o2) (j3 : max (-4096) (min (d + k) 4096) = o3) (w : World) :
    Calls Try.prog 28 #[.agg #[.int .i64 a, .int .i64 b, .int .i64 c, .int .i64 d], .int .i64 n] w fun e w' => e = .returned (.agg #[.int .i64 (cn (eR a b c d) (cn (eR o0 o1 o2 o3) o0)), .int .i64 (cn (eR a b c d) (cn (eR o0 o1 o2 o3) o1)), .int .i64 (cn (eR a b c d) (cn (eR o0 o1 o2 o3) o2)), .int .i64 (cn (eR a b c d) (cn (eR o0 o1 o2 o3) o3))]) ∧ Below w.heap.size w w' := by
  have c1 := fun w => rempty_any a b c d w
  cases ea : eR a b c d with
  | true =>
    rw [ea] at c1
    simp only [cn_true]
    clear j0 j1 j2 j3 hk ea
    go_enter Try.func28, Try.ntmps28
    go_wp2_with (first | (go_at_call 11; (with_reducible refine (c1 _).mono ?_); rintro e w1 ⟨rfl, hb1⟩; have k1_b2_0 : w1.cell? ⟨w.heap.size, 0, none⟩ = some (.int .i64 a) := bcs hb1 (by go_simp); have g1_b2_0 : w1.frozen? ⟨w.heap.size, 0, none⟩ = false := bfs hb1 (v := .int .i64 a) (by go_simp) (by go_simp); have k1_b2_1 : w1.cell? ⟨w.heap.size, 1, none⟩ = some (.int .i64 b) := bcs hb1 (by go_simp); have g1_b2_1 : w1.frozen? ⟨w.heap.size, 1, none⟩ = false := bfs hb1 (v := .int .i64 b) (by go_simp) (by go_simp); have k1_b2_2 : w1.cell? ⟨w.heap.size, 2, none⟩ = some (.int .i64 c) := bcs hb1 (by go_simp); have g1_b2_2 : w1.frozen? ⟨w.heap.size, 2, none⟩ = false := bfs hb1 (v := .int .i64 c) (by go_simp) (by go_simp); have k1_b2_3 : w1.cell? ⟨w.heap.size, 3, none⟩ = some (.int .i64 d) := bcs hb1 (by go_simp); have g1_b2_3 : w1.frozen? ⟨w.heap.size, 3, none⟩ = false := bfs hb1 (v := .int .i64 d) (by go_simp) (by go_simp); have k1_b4_0 : w1.cell? ⟨w.heap.size + 1, 0, none⟩ = some (.int .i64 0) := bcs hb1 (by go_simp); have g1_b4_0 : w1.frozen? ⟨w.heap.size + 1, 0, none⟩ = false := bfs hb1 (v := .int .i64 0) (by go_simp) (by go_simp); have k1_b4_1 : w1.cell? ⟨w.heap.size + 1, 1, none⟩ = some (.int .i64 0) := bcs hb1 (by go_simp); have g1_b4_1 : w1.frozen? ⟨w.heap.size + 1, 1, none⟩ = false := bfs hb1 (v := .int .i64 0) (by go_simp) (by go_simp); have k1_b4_2 : w1.cell? ⟨w.heap.size + 1, 2, none⟩ = some (.int .i64 0) := bcs hb1 (by go_simp); have g1_b4_2 : w1.frozen? ⟨w.heap.size + 1, 2, none⟩ = false := bfs hb1 (v := .int .i64 0) (by go_simp) (by go_simp); have k1_b4_3 : w1.cell? ⟨w.heap.size + 1, 3, none⟩ = some (.int .i64 0) := bcs hb1 (by go_simp); have g1_b4_3 : w1.frozen? ⟨w.heap.size + 1, 3, none⟩ = false := bfs hb1 (v := .int .i64 0) (by go_simp) (by go_simp); have q1_b2 : w.heap.size < w1.heap.size := qlt k1_b2_0; have x1_b2 : ¬ w.heap.size = w1.heap.size := qne k1_b2_0; have y1_b2 : ¬ w1.heap.size = w.heap.size := fun h => qne k1_b2_0 h.symm; have q1_b4 : w.heap.size + 1 < w1.heap.size := qlt k1_b4_0; have x1_b4 : ¬ w.heap.size + 1 = w1.heap.size := qne k1_b4_0; have y1_b4 : ¬ w1.heap.size = w.heap.size + 1 := fun h => qne k1_b4_0 h.symm; have B1 : Below w.heap.size w w1 := bel_step (by repeat (first | with_reducible exact Below.refl _ _ | fail | with_reducible apply below_drewN | with_reducible apply Below.drew | (with_reducible refine Below.alloc ?_ (by first | (simp; done) | (simp; omega) | omega) _) | (with_reducible refine Below.setCell ?_ (by first | (simp; done) | (simp; omega) | omega) _))) hb1; have z1 : w.heap.size + 1 + 1 ≤ w1.heap.size := Nat.le_trans (by first | with_reducible assumption | (simp; done) | (simp; omega)) hb1.size; clear hb1))
    refine bodyPost_ret (v := .agg #[.int .i64 0, .int .i64 0, .int .i64 0, .int .i64 0]) (by simp [results, Try.results28, go_sem, *]) rfl ⟨rfl, ?_⟩
    repeat (first | with_reducible exact Below.refl _ _ | with_reducible exact B1 | with_reducible apply below_drewN | with_reducible apply Below.drew | (with_reducible refine Below.alloc ?_ (by first | (simp; done) | (simp; omega) | omega) _) | (with_reducible refine Below.setCell ?_ (by first | (simp; done) | (simp; omega) | omega) _))
  | false =>
    have kk := (eR_false a b c d).1 ea
    have c3 := fun w => rcanon_any o0 o1 o2 o3 w
    obtain ⟨l, hl⟩ : ∃ x, max (-12288) (min 12288 n) = x := ⟨_, rfl⟩
    have ck := fun w => rclamp_any n (-12288) 12288 l hl w
    have kb : -12288 ≤ l ∧ l ≤ 12288 := by omega
    have q0 := fun w => rclamp_any (a - l) (-4096) 4096 o0 (by omega) w
    have q1 := fun w => rclamp_any (b - l) (-4096) 4096 o1 (by omega) w
    have q2 := fun w => rclamp_any (c + l) (-4096) 4096 o2 (by omega) w
    have q3 := fun w => rclamp_any (d + l) (-4096) 4096 o3 (by omega) w
    rw [ea] at c1
    simp only [cn_false]
    obtain ⟨O0, eO0⟩ : ∃ x, cn (eR o0 o1 o2 o3) o0 = x := ⟨_, rfl⟩
    obtain ⟨O1, eO1⟩ : ∃ x, cn (eR o0 o1 o2 o3) o1 = x := ⟨_, rfl⟩
    obtain ⟨O2, eO2⟩ : ∃ x, cn (eR o0 o1 o2 o3) o2 = x := ⟨_, rfl⟩
    obtain ⟨O3, eO3⟩ : ∃ x, cn (eR o0 o1 o2 o3) o3 = x := ⟨_, rfl⟩
    rw [eO0, eO1, eO2, eO3] at c3 ⊢
    clear eO0 eO1 eO2 eO3 j0 j1 j2 j3 hk hl ea
    go_enter Try.func28, Try.ntmps28
    go_wp2_with (first | (go_at_call 11; (with_reducible refine (c1 _).mono ?_); rintro e w1 ⟨rfl, hb1⟩; have k1_b2_0 : w1.cell? ⟨w.heap.size, 0, none⟩ = some (.int .i64 a) := bcs hb1 (by go_simp); have g1_b2_0 : w1.frozen? ⟨w.heap.size, 0, none⟩ = false := bfs hb1 (v := .int .i64 a) (by go_simp) (by go_simp); have k1_b2_1 : w1.cell? ⟨w.heap.size, 1, none⟩ = some (.int .i64 b) := bcs hb1 (by go_simp); have g1_b2_1 : w1.frozen? ⟨w.heap.size, 1, none⟩ = false := bfs hb1 (v := .int .i64 b) (by go_simp) (by go_simp); have k1_b2_2 : w1.cell? ⟨w.heap.size, 2, none⟩ = some (.int .i64 c) := bcs hb1 (by go_simp); have g1_b2_2 : w1.frozen? ⟨w.heap.size, 2, none⟩ = false := bfs hb1 (v := .int .i64 c) (by go_simp) (by go_simp); have k1_b2_3 : w1.cell? ⟨w.heap.size, 3, none⟩ = some (.int .i64 d) := bcs hb1 (by go_simp); have g1_b2_3 : w1.frozen? ⟨w.heap.size, 3, none⟩ = false := bfs hb1 (v := .int .i64 d) (by go_simp) (by go_simp); have k1_b4_0 : w1.cell? ⟨w.heap.size + 1, 0, none⟩ = some (.int .i64 0) := bcs hb1 (by go_simp); have g1_b4_0 : w1.frozen? ⟨w.heap.size + 1, 0, none⟩ = false := bfs hb1 (v := .int .i64 0) (by go_simp) (by go_simp); have k1_b4_1 : w1.cell? ⟨w.heap.size + 1, 1, none⟩ = some (.int .i64 0) := bcs hb1 (by go_simp); have g1_b4_1 : w1.frozen? ⟨w.heap.size + 1, 1, none⟩ = false := bfs hb1 (v := .int .i64 0) (by go_simp) (by go_simp); have k1_b4_2 : w1.cell? ⟨w.heap.size + 1, 2, none⟩ = some (.int .i64 0) := bcs hb1 (by go_simp); have g1_b4_2 : w1.frozen? ⟨w.heap.size + 1, 2, none⟩ = false := bfs hb1 (v := .int .i64 0) (by go_simp) (by go_simp); have k1_b4_3 : w1.cell? ⟨w.heap.size + 1, 3, none⟩ = some (.int .i64 0) := bcs hb1 (by go_simp); have g1_b4_3 : w1.frozen? ⟨w.heap.size + 1, 3, none⟩ = false := bfs hb1 (v := .int .i64 0) (by go_simp) (by go_simp); have q1_b2 : w.heap.size < w1.heap.size := qlt k1_b2_0; have x1_b2 : ¬ w.heap.size = w1.heap.size := qne k1_b2_0; have y1_b2 : ¬ w1.heap.size = w.heap.size := fun h => qne k1_b2_0 h.symm; have q1_b4 : w.heap.size + 1 < w1.heap.size := qlt k1_b4_0; have x1_b4 : ¬ w.heap.size + 1 = w1.heap.size := qne k1_b4_0; have y1_b4 : ¬ w1.heap.size = w.heap.size + 1 := fun h => qne k1_b4_0 h.symm; have B1 : Below w.heap.size w w1 := bel_step (by repeat (first | with_reducible exact Below.refl _ _ | fail | with_reducible apply below_drewN | with_reducible apply Below.drew | (with_reducible refine Below.alloc ?_ (by first | (simp; done) | (simp; omega) | omega) _) | (with_reducible refine Below.setCell ?_ (by first | (simp; done) | (simp; omega) | omega) _))) hb1; have z1 : w.heap.size + 1 + 1 ≤ w1.heap.size := Nat.le_trans (by first | with_reducible assumption | (simp; done) | (simp; omega)) hb1.size; clear hb1) | (go_at_call 37; (with_reducible refine (ck _).mono ?_); rintro e w9 ⟨rfl, rfl⟩))
    refine wp_region_env (fun w' => w'.cell? ⟨w.heap.size, 0, none⟩ = some (.int .i64 a) ∧ w'.frozen? ⟨w.heap.size, 0, none⟩ = false ∧ w'.cell? ⟨w.heap.size, 1, none⟩ = some (.int .i64 b) ∧ w'.frozen? ⟨w.heap.size, 1, none⟩ = false ∧ w'.cell? ⟨w.heap.size, 2, none⟩ = some (.int .i64 c) ∧ w'.frozen? ⟨w.heap.size, 2, none⟩ = false ∧ w'.cell? ⟨w.heap.size, 3, none⟩ = some (.int .i64 d) ∧ w'.frozen? ⟨w.heap.size, 3, none⟩ = false ∧ w'.cell? ⟨w.heap.size + 1, 0, none⟩ = some (.int .i64 0) ∧ w'.frozen? ⟨w.heap.size + 1, 0, none⟩ = false ∧ w'.cell? ⟨w.heap.size + 1, 1, none⟩ = some (.int .i64 0) ∧ w'.frozen? ⟨w.heap.size + 1, 1, none⟩ = false ∧ w'.cell? ⟨w.heap.size + 1, 2, none⟩ = some (.int .i64 0) ∧ w'.frozen? ⟨w.heap.size + 1, 2, none⟩ = false ∧ w'.cell? ⟨w.heap.size + 1, 3, none⟩ = some (.int .i64 0) ∧ w'.frozen? ⟨w.heap.size + 1, 3, none⟩ = false) (fun W => W.cell? ⟨w.heap.size, 0, none⟩ = some (.int .i64 a) ∧ W.frozen? ⟨w.heap.size, 0, none⟩ = false ∧ W.cell? ⟨w.heap.size, 1, none⟩ = some (.int .i64 b) ∧ W.frozen? ⟨w.heap.size, 1, none⟩ = false ∧ W.cell? ⟨w.heap.size, 2, none⟩ = some (.int .i64 c) ∧ W.frozen? ⟨w.heap.size, 2, none⟩ = false ∧ W.cell? ⟨w.heap.size, 3, none⟩ = some (.int .i64 d) ∧ W.frozen? ⟨w.heap.size, 3, none⟩ = false ∧ W.cell? ⟨w.heap.size + 1, 0, none⟩ = some (.int .i64 0) ∧ W.frozen? ⟨w.heap.size + 1, 0, none⟩ = false ∧ W.cell? ⟨w.heap.size + 1, 1, none⟩ = some (.int .i64 0) ∧ W.frozen? ⟨w.heap.size + 1, 1, none⟩ = false ∧ W.cell? ⟨w.heap.size + 1, 2, none⟩ = some (.int .i64 0) ∧ W.frozen? ⟨w.heap.size + 1, 2, none⟩ = false ∧ W.cell? ⟨w.heap.size + 1, 3, none⟩ = some (.int .i64 0) ∧ W.frozen? ⟨w.heap.size + 1, 3, none⟩ = false ∧ Below w.heap.size w W ∧ w.heap.size + 1 + 1 ≤ W.heap.size) 22 33 [.val (.pointer (some ⟨w.heap.size, 0, none⟩)), .val (.int .i64 a), .val (.int .i64 l), .val (.int .i64 (a - l)), .call 37 #[.int .i64 (a - l), .int .i64 (-4096), .int .i64 4096] (.int .i64 o0), .val (.pointer (some ⟨w.heap.size, 1, none⟩)), .val (.int .i64 b), .val (.int .i64 l), .val (.int .i64 (b - l)), .call 37 #[.int .i64 (b - l), .int .i64 (-4096), .int .i64 4096] (.int .i64 o1), .val (.pointer (some ⟨w.heap.size, 2, none⟩)), .val (.int .i64 c), .val (.int .i64 l), .val (.int .i64 (c + l)), .call 37 #[.int .i64 (c + l), .int .i64 (-4096), .int .i64 4096] (.int .i64 o2), .val (.pointer (some ⟨w.heap.size, 3, none⟩)), .val (.int .i64 d), .val (.int .i64 l), .val (.int .i64 (d + l)), .call 37 #[.int .i64 (d + l), .int .i64 (-4096), .int .i64 4096] (.int .i64 o3), .val (.agg #[.int .i64 o0, .int .i64 o1, .int .i64 o2, .int .i64 o3]), .call 13 #[.agg #[.int .i64 o0, .int .i64 o1, .int .i64 o2, .int .i64 o3]] (.agg #[.int .i64 O0, .int .i64 O1, .int .i64 O2, .int .i64 O3])] (by kernel_rfl) (by kernel_rfl) rfl (by kernel_rfl) (by rintro w1 w2 ⟨h0, h1, h2, h3, h4, h5, h6, h7, h8, h9, h10, h11, h12, h13, h14, h15⟩ hb; exact ⟨bcs hb h0, bfs hb h0 h1, bcs hb h2, bfs hb h2 h3, bcs hb h4, bfs hb h4 h5, bcs hb h6, bfs hb h6 h7, bcs hb h8, bfs hb h8 h9, bcs hb h10, bfs hb h10 h11, bcs hb h12, bfs hb h12 h13, bcs hb h14, bfs hb h14 h15⟩) ⟨by first | with_reducible assumption | go_simp, by first | with_reducible assumption | go_simp, by first | with_reducible assumption | go_simp, by first | with_reducible assumption | go_simp, by first | with_reducible assumption | go_simp, by first | with_reducible assumption | go_simp, by first | with_reducible assumption | go_simp, by first | with_reducible assumption | go_simp, by first | with_reducible assumption | go_simp, by first | with_reducible assumption | go_simp, by first | with_reducible assumption | go_simp, by first | with_reducible assumption | go_simp, by first | with_reducible assumption | go_simp, by first | with_reducible assumption | go_simp, by first | with_reducible assumption | go_simp, by first | with_reducible assumption | go_simp, by repeat (first | with_reducible exact Below.refl _ _ | with_reducible exact B1 | with_reducible apply below_drewN | with_reducible apply Below.drew | (with_reducible refine Below.alloc ?_ (by first | (simp; done) | (simp; omega) | omega) _) | (with_reducible refine Below.setCell ?_ (by first | (simp; done) | (simp; omega) | omega) _)), by first | with_reducible assumption | (simp; done) | (simp; omega)⟩ ?_ ?_
    · rintro W ⟨k2_b2_0, g2_b2_0, k2_b2_1, g2_b2_1, k2_b2_2, g2_b2_2, k2_b2_3, g2_b2_3, k2_b4_0, g2_b4_0, k2_b4_1, g2_b4_1, k2_b4_2, g2_b4_2, k2_b4_3, g2_b4_3, B2, z2⟩; exact ⟨k2_b2_0, g2_b2_0, k2_b2_1, g2_b2_1, k2_b2_2, g2_b2_2, k2_b2_3, g2_b2_3, k2_b4_0, g2_b4_0, k2_b4_1, g2_b4_1, k2_b4_2, g2_b4_2, k2_b4_3, g2_b4_3⟩
    (try clear B1)
    (try clear z1)
    (try clear k1_b2_0)
    (try clear g1_b2_0)
    (try clear k1_b2_1)
    (try clear g1_b2_1)
    (try clear k1_b2_2)
    (try clear g1_b2_2)
    (try clear k1_b2_3)
    (try clear g1_b2_3)
    (try clear k1_b4_0)
    (try clear g1_b4_0)
    (try clear k1_b4_1)
    (try clear g1_b4_1)
    (try clear k1_b4_2)
    (try clear g1_b4_2)
    (try clear k1_b4_3)
    (try clear g1_b4_3)
    (try clear q1_b2)
    (try clear x1_b2)
    (try clear y1_b2)
    (try clear q1_b4)
    (try clear x1_b4)
    (try clear y1_b4)
    rintro w2 ⟨k2_b2_0, g2_b2_0, k2_b2_1, g2_b2_1, k2_b2_2, g2_b2_2, k2_b2_3, g2_b2_3, k2_b4_0, g2_b4_0, k2_b4_1, g2_b4_1, k2_b4_2, g2_b4_2, k2_b4_3, g2_b4_3, B2, z2⟩ gg
    simp only [List.take_succ_cons, List.take_zero, List.drop_succ_cons, List.drop_zero, List.cons_append, List.nil_append, List.append_nil]
    refine obe_val (by rfl) ?_ ?_
    · clear k2_b2_0 g2_b2_0 k2_b2_1 g2_b2_1 k2_b2_2 g2_b2_2 k2_b2_3 g2_b2_3 k2_b4_0 g2_b4_0 k2_b4_1 g2_b4_1 k2_b4_2 g2_b4_2 k2_b4_3 g2_b4_3 B2 z2; intro f hf; have u2 : f 2 = (.pointer (some ⟨w.heap.size, 0, none⟩)) := (by rw [← hf]; rfl); clear hf; rintro w' ⟨h0, h1, h2, h3, h4, h5, h6, h7, h8, h9, h10, h11, h12, h13, h14, h15⟩; go_simp; try exact IntWalk.i64_in _ (by omega)
    refine obe_val (by rfl) ?_ ?_
    · clear k2_b2_0 g2_b2_0 k2_b2_1 g2_b2_1 k2_b2_2 g2_b2_2 k2_b2_3 g2_b2_3 k2_b4_0 g2_b4_0 k2_b4_1 g2_b4_1 k2_b4_2 g2_b4_2 k2_b4_3 g2_b4_3 B2 z2; intro f hf; have u11 : f 11 = (.pointer (some ⟨w.heap.size, 0, none⟩)) := (by rw [← hf]; rfl); clear hf; rintro w' ⟨h0, h1, h2, h3, h4, h5, h6, h7, h8, h9, h10, h11, h12, h13, h14, h15⟩; go_simp; try exact IntWalk.i64_in _ (by omega)
    refine obe_val (by rfl) ?_ ?_
    · clear k2_b2_0 g2_b2_0 k2_b2_1 g2_b2_1 k2_b2_2 g2_b2_2 k2_b2_3 g2_b2_3 k2_b4_0 g2_b4_0 k2_b4_1 g2_b4_1 k2_b4_2 g2_b4_2 k2_b4_3 g2_b4_3 B2 z2; intro f hf; have u5 : f 5 = (.int .i64 l) := (by rw [← hf]; rfl); clear hf; rintro w' ⟨h0, h1, h2, h3, h4, h5, h6, h7, h8, h9, h10, h11, h12, h13, h14, h15⟩; go_simp; try exact IntWalk.i64_in _ (by omega)
    refine obe_val (by rfl) ?_ ?_
    · clear k2_b2_0 g2_b2_0 k2_b2_1 g2_b2_1 k2_b2_2 g2_b2_2 k2_b2_3 g2_b2_3 k2_b4_0 g2_b4_0 k2_b4_1 g2_b4_1 k2_b4_2 g2_b4_2 k2_b4_3 g2_b4_3 B2 z2; intro f hf; have u12 : f 12 = (.int .i64 a) := (by rw [← hf]; rfl); have u13 : f 13 = (.int .i64 l) := (by rw [← hf]; rfl); clear hf; rintro w' ⟨h0, h1, h2, h3, h4, h5, h6, h7, h8, h9, h10, h11, h12, h13, h14, h15⟩; go_simp; try exact IntWalk.i64_in _ (by omega)
    refine obe_call (by rfl) ?_ ?_ ?_
    · clear k2_b2_0 g2_b2_0 k2_b2_1 g2_b2_1 k2_b2_2 g2_b2_2 k2_b2_3 g2_b2_3 k2_b4_0 g2_b4_0 k2_b4_1 g2_b4_1 k2_b4_2 g2_b4_2 k2_b4_3 g2_b4_3 B2 z2; intro f hf; have u14 : f 14 = (.int .i64 (a - l)) := (by rw [← hf]; rfl); clear hf; intro w' _; simp only [execOp, resolve, invoke, rhoF_tmp, rhoF_func, rhoF_const, u14, List.map_toArray, List.map_cons, List.map_nil]; go_simp
    · clear k2_b2_0 g2_b2_0 k2_b2_1 g2_b2_1 k2_b2_2 g2_b2_2 k2_b2_3 g2_b2_3 k2_b4_0 g2_b4_0 k2_b4_1 g2_b4_1 k2_b4_2 g2_b4_2 k2_b4_3 g2_b4_3 B2 z2; rintro w' ⟨h0, h1, h2, h3, h4, h5, h6, h7, h8, h9, h10, h11, h12, h13, h14, h15⟩; exact (q0 _).mono (by rintro e w2 ⟨rfl, rfl⟩; exact ⟨rfl, Below.refl _ _⟩)
    refine obe_val (by rfl) ?_ ?_
    · clear k2_b2_0 g2_b2_0 k2_b2_1 g2_b2_1 k2_b2_2 g2_b2_2 k2_b2_3 g2_b2_3 k2_b4_0 g2_b4_0 k2_b4_1 g2_b4_1 k2_b4_2 g2_b4_2 k2_b4_3 g2_b4_3 B2 z2; intro f hf; have u2 : f 2 = (.pointer (some ⟨w.heap.size, 0, none⟩)) := (by rw [← hf]; rfl); clear hf; rintro w' ⟨h0, h1, h2, h3, h4, h5, h6, h7, h8, h9, h10, h11, h12, h13, h14, h15⟩; go_simp; try exact IntWalk.i64_in _ (by omega)
    refine obe_val (by rfl) ?_ ?_
    · clear k2_b2_0 g2_b2_0 k2_b2_1 g2_b2_1 k2_b2_2 g2_b2_2 k2_b2_3 g2_b2_3 k2_b4_0 g2_b4_0 k2_b4_1 g2_b4_1 k2_b4_2 g2_b4_2 k2_b4_3 g2_b4_3 B2 z2; intro f hf; have u16 : f 16 = (.pointer (some ⟨w.heap.size, 1, none⟩)) := (by rw [← hf]; rfl); clear hf; rintro w' ⟨h0, h1, h2, h3, h4, h5, h6, h7, h8, h9, h10, h11, h12, h13, h14, h15⟩; go_simp; try exact IntWalk.i64_in _ (by omega)
    refine obe_val (by rfl) ?_ ?_
    · clear k2_b2_0 g2_b2_0 k2_b2_1 g2_b2_1 k2_b2_2 g2_b2_2 k2_b2_3 g2_b2_3 k2_b4_0 g2_b4_0 k2_b4_1 g2_b4_1 k2_b4_2 g2_b4_2 k2_b4_3 g2_b4_3 B2 z2; intro f hf; have u5 : f 5 = (.int .i64 l) := (by rw [← hf]; rfl); clear hf; rintro w' ⟨h0, h1, h2, h3, h4, h5, h6, h7, h8, h9, h10, h11, h12, h13, h14, h15⟩; go_simp; try exact IntWalk.i64_in _ (by omega)
    refine obe_val (by rfl) ?_ ?_
    · clear k2_b2_0 g2_b2_0 k2_b2_1 g2_b2_1 k2_b2_2 g2_b2_2 k2_b2_3 g2_b2_3 k2_b4_0 g2_b4_0 k2_b4_1 g2_b4_1 k2_b4_2 g2_b4_2 k2_b4_3 g2_b4_3 B2 z2; intro f hf; have u17 : f 17 = (.int .i64 b) := (by rw [← hf]; rfl); have u18 : f 18 = (.int .i64 l) := (by rw [← hf]; rfl); clear hf; rintro w' ⟨h0, h1, h2, h3, h4, h5, h6, h7, h8, h9, h10, h11, h12, h13, h14, h15⟩; go_simp; try exact IntWalk.i64_in _ (by omega)
    refine obe_call (by rfl) ?_ ?_ ?_
    · clear k2_b2_0 g2_b2_0 k2_b2_1 g2_b2_1 k2_b2_2 g2_b2_2 k2_b2_3 g2_b2_3 k2_b4_0 g2_b4_0 k2_b4_1 g2_b4_1 k2_b4_2 g2_b4_2 k2_b4_3 g2_b4_3 B2 z2; intro f hf; have u19 : f 19 = (.int .i64 (b - l)) := (by rw [← hf]; rfl); clear hf; intro w' _; simp only [execOp, resolve, invoke, rhoF_tmp, rhoF_func, rhoF_const, u19, List.map_toArray, List.map_cons, List.map_nil]; go_simp
    · clear k2_b2_0 g2_b2_0 k2_b2_1 g2_b2_1 k2_b2_2 g2_b2_2 k2_b2_3 g2_b2_3 k2_b4_0 g2_b4_0 k2_b4_1 g2_b4_1 k2_b4_2 g2_b4_2 k2_b4_3 g2_b4_3 B2 z2; rintro w' ⟨h0, h1, h2, h3, h4, h5, h6, h7, h8, h9, h10, h11, h12, h13, h14, h15⟩; exact (q1 _).mono (by rintro e w2 ⟨rfl, rfl⟩; exact ⟨rfl, Below.refl _ _⟩)
    refine obe_val (by rfl) ?_ ?_
    · clear k2_b2_0 g2_b2_0 k2_b2_1 g2_b2_1 k2_b2_2 g2_b2_2 k2_b2_3 g2_b2_3 k2_b4_0 g2_b4_0 k2_b4_1 g2_b4_1 k2_b4_2 g2_b4_2 k2_b4_3 g2_b4_3 B2 z2; intro f hf; have u2 : f 2 = (.pointer (some ⟨w.heap.size, 0, none⟩)) := (by rw [← hf]; rfl); clear hf; rintro w' ⟨h0, h1, h2, h3, h4, h5, h6, h7, h8, h9, h10, h11, h12, h13, h14, h15⟩; go_simp; try exact IntWalk.i64_in _ (by omega)
    refine obe_val (by rfl) ?_ ?_
    · clear k2_b2_0 g2_b2_0 k2_b2_1 g2_b2_1 k2_b2_2 g2_b2_2 k2_b2_3 g2_b2_3 k2_b4_0 g2_b4_0 k2_b4_1 g2_b4_1 k2_b4_2 g2_b4_2 k2_b4_3 g2_b4_3 B2 z2; intro f hf; have u21 : f 21 = (.pointer (some ⟨w.heap.size, 2, none⟩)) := (by rw [← hf]; rfl); clear hf; rintro w' ⟨h0, h1, h2, h3, h4, h5, h6, h7, h8, h9, h10, h11, h12, h13, h14, h15⟩; go_simp; try exact IntWalk.i64_in _ (by omega)
    refine obe_val (by rfl) ?_ ?_
    · clear k2_b2_0 g2_b2_0 k2_b2_1 g2_b2_1 k2_b2_2 g2_b2_2 k2_b2_3 g2_b2_3 k2_b4_0 g2_b4_0 k2_b4_1 g2_b4_1 k2_b4_2 g2_b4_2 k2_b4_3 g2_b4_3 B2 z2; intro f hf; have u5 : f 5 = (.int .i64 l) := (by rw [← hf]; rfl); clear hf; rintro w' ⟨h0, h1, h2, h3, h4, h5, h6, h7, h8, h9, h10, h11, h12, h13, h14, h15⟩; go_simp; try exact IntWalk.i64_in _ (by omega)
    refine obe_val (by rfl) ?_ ?_
    · clear k2_b2_0 g2_b2_0 k2_b2_1 g2_b2_1 k2_b2_2 g2_b2_2 k2_b2_3 g2_b2_3 k2_b4_0 g2_b4_0 k2_b4_1 g2_b4_1 k2_b4_2 g2_b4_2 k2_b4_3 g2_b4_3 B2 z2; intro f hf; have u22 : f 22 = (.int .i64 c) := (by rw [← hf]; rfl); have u23 : f 23 = (.int .i64 l) := (by rw [← hf]; rfl); clear hf; rintro w' ⟨h0, h1, h2, h3, h4, h5, h6, h7, h8, h9, h10, h11, h12, h13, h14, h15⟩; go_simp; try exact IntWalk.i64_in _ (by omega)
    refine obe_call (by rfl) ?_ ?_ ?_
    · clear k2_b2_0 g2_b2_0 k2_b2_1 g2_b2_1 k2_b2_2 g2_b2_2 k2_b2_3 g2_b2_3 k2_b4_0 g2_b4_0 k2_b4_1 g2_b4_1 k2_b4_2 g2_b4_2 k2_b4_3 g2_b4_3 B2 z2; intro f hf; have u24 : f 24 = (.int .i64 (c + l)) := (by rw [← hf]; rfl); clear hf; intro w' _; simp only [execOp, resolve, invoke, rhoF_tmp, rhoF_func, rhoF_const, u24, List.map_toArray, List.map_cons, List.map_nil]; go_simp
    · clear k2_b2_0 g2_b2_0 k2_b2_1 g2_b2_1 k2_b2_2 g2_b2_2 k2_b2_3 g2_b2_3 k2_b4_0 g2_b4_0 k2_b4_1 g2_b4_1 k2_b4_2 g2_b4_2 k2_b4_3 g2_b4_3 B2 z2; rintro w' ⟨h0, h1, h2, h3, h4, h5, h6, h7, h8, h9, h10, h11, h12, h13, h14, h15⟩; exact (q2 _).mono (by rintro e w2 ⟨rfl, rfl⟩; exact ⟨rfl, Below.refl _ _⟩)
    refine obe_val (by rfl) ?_ ?_
    · clear k2_b2_0 g2_b2_0 k2_b2_1 g2_b2_1 k2_b2_2 g2_b2_2 k2_b2_3 g2_b2_3 k2_b4_0 g2_b4_0 k2_b4_1 g2_b4_1 k2_b4_2 g2_b4_2 k2_b4_3 g2_b4_3 B2 z2; intro f hf; have u2 : f 2 = (.pointer (some ⟨w.heap.size, 0, none⟩)) := (by rw [← hf]; rfl); clear hf; rintro w' ⟨h0, h1, h2, h3, h4, h5, h6, h7, h8, h9, h10, h11, h12, h13, h14, h15⟩; go_simp; try exact IntWalk.i64_in _ (by omega)
    refine obe_val (by rfl) ?_ ?_
    · clear k2_b2_0 g2_b2_0 k2_b2_1 g2_b2_1 k2_b2_2 g2_b2_2 k2_b2_3 g2_b2_3 k2_b4_0 g2_b4_0 k2_b4_1 g2_b4_1 k2_b4_2 g2_b4_2 k2_b4_3 g2_b4_3 B2 z2; intro f hf; have u26 : f 26 = (.pointer (some ⟨w.heap.size, 3, none⟩)) := (by rw [← hf]; rfl); clear hf; rintro w' ⟨h0, h1, h2, h3, h4, h5, h6, h7, h8, h9, h10, h11, h12, h13, h14, h15⟩; go_simp; try exact IntWalk.i64_in _ (by omega)
    refine obe_val (by rfl) ?_ ?_
    · clear k2_b2_0 g2_b2_0 k2_b2_1 g2_b2_1 k2_b2_2 g2_b2_2 k2_b2_3 g2_b2_3 k2_b4_0 g2_b4_0 k2_b4_1 g2_b4_1 k2_b4_2 g2_b4_2 k2_b4_3 g2_b4_3 B2 z2; intro f hf; have u5 : f 5 = (.int .i64 l) := (by rw [← hf]; rfl); clear hf; rintro w' ⟨h0, h1, h2, h3, h4, h5, h6, h7, h8, h9, h10, h11, h12, h13, h14, h15⟩; go_simp; try exact IntWalk.i64_in _ (by omega)
    refine obe_val (by rfl) ?_ ?_
    · clear k2_b2_0 g2_b2_0 k2_b2_1 g2_b2_1 k2_b2_2 g2_b2_2 k2_b2_3 g2_b2_3 k2_b4_0 g2_b4_0 k2_b4_1 g2_b4_1 k2_b4_2 g2_b4_2 k2_b4_3 g2_b4_3 B2 z2; intro f hf; have u27 : f 27 = (.int .i64 d) := (by rw [← hf]; rfl); have u28 : f 28 = (.int .i64 l) := (by rw [← hf]; rfl); clear hf; rintro w' ⟨h0, h1, h2, h3, h4, h5, h6, h7, h8, h9, h10, h11, h12, h13, h14, h15⟩; go_simp; try exact IntWalk.i64_in _ (by omega)
    refine obe_call (by rfl) ?_ ?_ ?_
    · clear k2_b2_0 g2_b2_0 k2_b2_1 g2_b2_1 k2_b2_2 g2_b2_2 k2_b2_3 g2_b2_3 k2_b4_0 g2_b4_0 k2_b4_1 g2_b4_1 k2_b4_2 g2_b4_2 k2_b4_3 g2_b4_3 B2 z2; intro f hf; have u29 : f 29 = (.int .i64 (d + l)) := (by rw [← hf]; rfl); clear hf; intro w' _; simp only [execOp, resolve, invoke, rhoF_tmp, rhoF_func, rhoF_const, u29, List.map_toArray, List.map_cons, List.map_nil]; go_simp
    · clear k2_b2_0 g2_b2_0 k2_b2_1 g2_b2_1 k2_b2_2 g2_b2_2 k2_b2_3 g2_b2_3 k2_b4_0 g2_b4_0 k2_b4_1 g2_b4_1 k2_b4_2 g2_b4_2 k2_b4_3 g2_b4_3 B2 z2; rintro w' ⟨h0, h1, h2, h3, h4, h5, h6, h7, h8, h9, h10, h11, h12, h13, h14, h15⟩; exact (q3 _).mono (by rintro e w2 ⟨rfl, rfl⟩; exact ⟨rfl, Below.refl _ _⟩)
    refine obe_val (by rfl) ?_ ?_
    · clear k2_b2_0 g2_b2_0 k2_b2_1 g2_b2_1 k2_b2_2 g2_b2_2 k2_b2_3 g2_b2_3 k2_b4_0 g2_b4_0 k2_b4_1 g2_b4_1 k2_b4_2 g2_b4_2 k2_b4_3 g2_b4_3 B2 z2; intro f hf; have u15 : f 15 = (.int .i64 o0) := (by rw [← hf]; rfl); have u20 : f 20 = (.int .i64 o1) := (by rw [← hf]; rfl); have u25 : f 25 = (.int .i64 o2) := (by rw [← hf]; rfl); have u30 : f 30 = (.int .i64 o3) := (by rw [← hf]; rfl); clear hf; rintro w' ⟨h0, h1, h2, h3, h4, h5, h6, h7, h8, h9, h10, h11, h12, h13, h14, h15⟩; go_simp; try exact IntWalk.i64_in _ (by omega)
    refine obe_call (by rfl) ?_ ?_ ?_
    · clear k2_b2_0 g2_b2_0 k2_b2_1 g2_b2_1 k2_b2_2 g2_b2_2 k2_b2_3 g2_b2_3 k2_b4_0 g2_b4_0 k2_b4_1 g2_b4_1 k2_b4_2 g2_b4_2 k2_b4_3 g2_b4_3 B2 z2; intro f hf; have u31 : f 31 = (.agg #[.int .i64 o0, .int .i64 o1, .int .i64 o2, .int .i64 o3]) := (by rw [← hf]; rfl); clear hf; intro w' _; simp only [execOp, resolve, invoke, rhoF_tmp, rhoF_func, rhoF_const, u31, List.map_toArray, List.map_cons, List.map_nil]; go_simp
    · clear k2_b2_0 g2_b2_0 k2_b2_1 g2_b2_1 k2_b2_2 g2_b2_2 k2_b2_3 g2_b2_3 k2_b4_0 g2_b4_0 k2_b4_1 g2_b4_1 k2_b4_2 g2_b4_2 k2_b4_3 g2_b4_3 B2 z2; rintro w' ⟨h0, h1, h2, h3, h4, h5, h6, h7, h8, h9, h10, h11, h12, h13, h14, h15⟩; exact c3 _
    refine obe_nil ?_
    rintro w3 ⟨h0, h1, h2, h3, h4, h5, h6, h7, h8, h9, h10, h11, h12, h13, h14, h15⟩ hb3 hF
    (try simp only [List.nil_append, List.append_nil, List.cons_append] at hF)
    simp only [puts, putD, Act.put, List.setIfInBounds_toArray, List.set_cons_zero, List.set_cons_succ]
    clear hF
    have k3_b2_0 := bcs hb3 k2_b2_0
    have g3_b2_0 := bfs hb3 k2_b2_0 g2_b2_0
    have k3_b2_1 := bcs hb3 k2_b2_1
    have g3_b2_1 := bfs hb3 k2_b2_1 g2_b2_1
    have k3_b2_2 := bcs hb3 k2_b2_2
    have g3_b2_2 := bfs hb3 k2_b2_2 g2_b2_2
    have k3_b2_3 := bcs hb3 k2_b2_3
    have g3_b2_3 := bfs hb3 k2_b2_3 g2_b2_3
    have k3_b4_0 := bcs hb3 k2_b4_0
    have g3_b4_0 := bfs hb3 k2_b4_0 g2_b4_0
    have k3_b4_1 := bcs hb3 k2_b4_1
    have g3_b4_1 := bfs hb3 k2_b4_1 g2_b4_1
    have k3_b4_2 := bcs hb3 k2_b4_2
    have g3_b4_2 := bfs hb3 k2_b4_2 g2_b4_2
    have k3_b4_3 := bcs hb3 k2_b4_3
    have g3_b4_3 := bfs hb3 k2_b4_3 g2_b4_3
    clear h0 h1 h2 h3 h4 h5 h6 h7 h8 h9 h10 h11 h12 h13 h14 h15
    have B3 := bel_step B2 hb3
    have z3 := Nat.le_trans z2 hb3.size
    clear hb3
    (try clear B2)
    (try clear z2)
    (try clear k2_b2_0)
    (try clear g2_b2_0)
    (try clear k2_b2_1)
    (try clear g2_b2_1)
    (try clear k2_b2_2)
    (try clear g2_b2_2)
    (try clear k2_b2_3)
    (try clear g2_b2_3)
    (try clear k2_b4_0)
    (try clear g2_b4_0)
    (try clear k2_b4_1)
    (try clear g2_b4_1)
    (try clear k2_b4_2)
    (try clear g2_b4_2)
    (try clear k2_b4_3)
    (try clear g2_b4_3)
    (try clear q2_b2)
    (try clear x2_b2)
    (try clear y2_b2)
    (try clear q2_b4)
    (try clear x2_b4)
    (try clear y2_b4)
    have q3_b2 : w.heap.size < w3.heap.size := qlt k3_b2_0
    have x3_b2 : ¬ w.heap.size = w3.heap.size := qne k3_b2_0
    have y3_b2 : ¬ w3.heap.size = w.heap.size := fun h => qne k3_b2_0 h.symm
    have q3_b4 : w.heap.size + 1 < w3.heap.size := qlt k3_b4_0
    have x3_b4 : ¬ w.heap.size + 1 = w3.heap.size := qne k3_b4_0
    have y3_b4 : ¬ w3.heap.size = w.heap.size + 1 := fun h => qne k3_b4_0 h.symm
    go_wp2
    refine bodyPost_ret (v := .agg #[.int .i64 O0, .int .i64 O1, .int .i64 O2, .int .i64 O3]) (by simp [results, Try.results28, go_sem, *]) rfl ⟨rfl, ?_⟩
    repeat (first | with_reducible exact Below.refl _ _ | with_reducible exact B3 | with_reducible apply below_drewN | with_reducible apply Below.drew | (with_reducible refine Below.alloc ?_ (by first | (simp; done) | (simp; omega) | omega) _) | (with_reducible refine Below.setCell ?_ (by first | (simp; done) | (simp; omega) | omega) _))
end Go.Proofs.Ytbipanhgjbnljaa
